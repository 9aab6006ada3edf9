/- Trials: two appends into two fields of one struct, in one region, whatever the order. -/
import Derived.Test.YtkmacpkjobdffaaGreatAny
import Derived.Test.YtkmacpkjobdffaaGreatTiR
namespace Go.Proofs.YtkmacpkjobdffaaGreat
open Go.RowKit
def closedB (D : List (Nat × Nat)) (L : List Nat) : Bool := D.all fun d => !L.contains d.2 || L.contains d.1
/-- The checks on the order, over sets alone that hold with each operation all that it waits for. -/
def anyD (md : Region.Mode) (ops : Array Oper) (c : Nat) (J : List Nat) (D : List (Nat × Nat)) (pre : Array Bool) : Bool :=
  J.all (fun j => (!pre.getD j true) && match ops[j]? with | some o => o.guard.isNone | none => false) && D.all (fun d => J.contains d.1) &&
  reachedB md ops pre && (subs J).all fun L => !closedB D L || !reachedB md ops (marked pre J L.contains) ||
    (J.all L.contains || ((Region.ready md ops (marked pre J L.contains)).all (fun i => J.contains i && (!(i == c) && D.all fun d => !(d.2 == i) || L.contains d.1)) &&
      !(Region.ready md ops (marked pre J L.contains)).isEmpty))
section
variable {F : Fence} {n : Nat} {P : Program} {ops : Array Oper} {Q : Exit → Act → World → Prop} {md : Region.Mode} {S : World → Prop} {c : Nat}
theorem wpHeldIn_anyD (J : List Nat) (D : List (Nat × Nat)) (I : Act → (Nat → Bool) → Act → World → Prop) {pre done : Array Bool} {a0 : Act} {w0 : World} {fuel f0 : Nat}
    (hf : fuel = J.length + f0) (hJ : J.Nodup) (hchk : anyD md ops c J D pre = true) (hdone : marked pre J (fun _ => true) = done)
    (hpre : marked pre J (fun _ => false) = pre)
    (h0 : I a0 (fun _ => false) a0 w0)
    (hstep : ∀ j o, j ∈ J → ops[j]? = some o → ∀ s a w, I a0 s a w → s j = false → (∀ i, (i, j) ∈ D → s i = true) → ∀ K : Act → World → Prop, (∀ a' w', S w' → I a0 (upd s j) a' w' → K a' w') → Oper.wpIn F n P o a w K Q)
    (hend : ∀ s a w, (∀ j ∈ J, s j = true) → I a0 s a w → wpHeldIn F n P md ops Q S c f0 done a w) :
    wpHeldIn F n P md ops Q S c fuel pre a0 w0 := by
  unfold anyD at hchk
  rw [Bool.and_eq_true, Bool.and_eq_true, Bool.and_eq_true, List.all_eq_true, List.all_eq_true, List.all_eq_true] at hchk
  obtain ⟨⟨⟨hg, hDJ⟩, hrc⟩, hr⟩ := hchk
  have hcon : ∀ (s : Nat → Bool) (k : Nat), (∀ j ∈ J, (J.filter s).contains j = s j) := fun s k j hj => by
    cases h : s j with
    | true => simpa using ⟨hj, h⟩
    | false => simpa using fun _ => h
  have hclo : ∀ s : Nat → Bool, (∀ d ∈ D, s d.2 = true → s d.1 = true) → closedB D (J.filter s) = true := fun s hs => by
    unfold closedB
    rw [List.all_eq_true]
    intro d hd
    cases h : (J.filter s).contains d.2 with
    | false => rfl
    | true =>
      have h2 : d.2 ∈ J.filter s := by simpa using h
      have h1 := hs d hd (List.mem_filter.1 h2).2
      have h3 : d.1 ∈ J := by simpa using hDJ d hd
      have h4 : d.1 ∈ J.filter s := List.mem_filter.2 ⟨h3, h1⟩
      simpa using h4
  have main : ∀ (k : Nat) (s : Nat → Bool) (a : Act) (w : World), (∀ d ∈ D, s d.2 = true → s d.1 = true) → Reached md ops (marked pre J s) → I a0 s a w → (J.filter fun j => !s j).length = k → wpHeldIn F n P md ops Q S c (k + f0) (marked pre J s) a w := by
    intro k
    induction k with
    | zero =>
      intro s a w hcl hre hI hk
      have hall : ∀ j ∈ J, s j = true := fun j hj => by
        cases h : s j with
        | true => rfl
        | false =>
          have : j ∈ J.filter fun j => !s j := List.mem_filter.2 ⟨hj, by simp [h]⟩
          rw [List.length_eq_zero_iff.1 hk] at this
          cases this
      rw [Nat.zero_add, marked_congr (s' := fun _ => true) hall, hdone]
      exact hend s a w hall hI
    | succ k ih =>
      intro s a w hcl hre hI hk
      have hL := hr _ (filter_subs s J)
      have hnall : J.all (J.filter s).contains = false := by
        rw [Bool.eq_false_iff]
        intro hall
        rw [List.all_eq_true] at hall
        have : J.filter (fun j => !s j) = [] := List.filter_eq_nil_iff.2 fun j hj => by
          have := hall j hj
          rw [hcon s 0 j hj] at this
          simp [this]
        rw [this] at hk
        cases hk
      rw [hclo s hcl, marked_congr (s' := s) (hcon s 0), reachedB_of hre, hnall, Bool.not_true, Bool.false_or, Bool.false_or, Bool.false_or, Bool.and_eq_true, List.all_eq_true] at hL
      obtain ⟨hL1, hL2⟩ := hL
      rw [Nat.succ_add]
      refine ⟨fun h0 => ?_, fun i hi => ?_⟩
      · rw [h0] at hL2
        cases hL2
      · have h1 := hL1 i hi
        simp only [Bool.and_eq_true, List.all_eq_true] at h1
        obtain ⟨hiJ, hic, hD⟩ := h1
        have hiJ' : i ∈ J := by simpa using hiJ
        have hic' : i ≠ c := by simpa using hic
        rw [if_neg hic']
        obtain ⟨hl, o, ho, hafter⟩ := mem_ready.1 hi
        have hsz : i < pre.size := by
          have := hg i hiJ'
          rw [Bool.and_eq_true] at this
          by_cases hlt : i < pre.size
          · exact hlt
          · have h2 := this.1
            rw [Array.getD_eq_getD_getElem?, Array.getElem?_eq_none (by omega)] at h2
            simp at h2
        have hsi : s i = false := by
          rw [Array.getD_eq_getD_getElem?, Array.getElem?_eq_getElem (by simpa [marked] using hsz)] at hl
          unfold marked at hl
          rw [Array.getElem_mapIdx] at hl
          simpa [hiJ'] using hl
        have hgo : o.guard = none := by
          have := hg i hiJ'
          rw [Bool.and_eq_true, ho] at this
          simpa using this.2
        have hdep : ∀ d, (d, i) ∈ D → s d = true := fun d hd => by
          have := hD _ hd
          simp only [beq_self_eq_true, Bool.not_true, Bool.false_or] at this
          have hm : d ∈ J.filter s := by simpa using this
          exact (List.mem_filter.1 hm).2
        unfold wpOpIn
        simp only [ho]
        rw [if_pos (show Region.wanted o (yielded ops a.tmps) = true by unfold Region.wanted; rw [hgo])]
        refine hstep i o hiJ' ho s a w hI hsi hdep _ fun a' w' hS' hI' => ⟨hS', ?_⟩
        rw [marked_upd hiJ']
        exact ih _ a' w' (fun d hd hu => by
          unfold upd at hu ⊢
          rw [Bool.or_eq_true] at hu ⊢
          rcases hu with hu | hu
          · have e : d.2 = i := by simpa using hu
            exact .inr (hdep d.1 (by rw [← e]; exact hd))
          · exact .inr (hcl d hd hu)) (by rw [← marked_upd hiJ']; exact hre.step hi) hI' (by have := count_upd hJ hiJ' hsi; omega)
  subst hf
  have := main J.length (fun _ => false) a0 w0 (fun d _ h => (by cases h)) (by rw [hpre]; exact reached_of hrc) h0 (by simp)
  rw [hpre] at this
  exact this
end
end Go.Proofs.YtkmacpkjobdffaaGreat
namespace Go.Proofs.YtkmacpkjobdffaaGreat
open Go.RowKit Go.Maps
theorem test_info : (Tryz.prog.info? 78).map (fun i => (i.zero, i.size, i.bytes)) = some (some (.agg #[.int .i64 0, .slice none 0 0]), 2, 32) := by kernel_rfl
theorem own_form2 {w : World} {B : Nat} {e : TypeId} {v : Value} {n : Nat} {xs : List Value} (h : w.ownsRow B e 2 v n xs) : ∃ A c, v = .slice A n c := by
  rcases h.2 with ⟨rfl, rfl⟩ | ⟨g, cap, cur, rfl, _⟩
  · exact ⟨none, 0, rfl⟩
  · exact ⟨some ⟨g, 0, none⟩, cap, rfl⟩
theorem put_ne {a : Act} {d t : Nat} (h : t ≠ d) (v : Value) : (a.put (some d) v).eval (.tmp t) = a.eval (.tmp t) := by
  show (a.tmps.setIfInBounds d v).getD t undef = a.tmps.getD t undef
  simp only [Array.getD_eq_getD_getElem?]
  rw [Array.getElem?_setIfInBounds_ne (fun e => h e.symm)]
theorem put_eq {a : Act} {d : Nat} (h : d < a.tmps.size) (v : Value) : (a.put (some d) v).eval (.tmp d) = v := by
  show (a.tmps.setIfInBounds d v).getD d undef = v
  simp only [Array.getD_eq_getD_getElem?]
  rw [Array.getElem?_setIfInBounds_self_of_lt h]
  rfl
theorem put_size (a : Act) (d : Nat) (v : Value) : (a.put (some d) v).tmps.size = a.tmps.size := Array.size_setIfInBounds ..
theorem put_comm {a : Act} {d e : Nat} (h : d ≠ e) (u v : Value) : (a.put (some d) u).put (some e) v = (a.put (some e) v).put (some d) u := by
  show ({ a with tmps := (a.tmps.setIfInBounds d u).setIfInBounds e v } : Act) = { a with tmps := (a.tmps.setIfInBounds e v).setIfInBounds d u }
  rw [Array.setIfInBounds_comm _ _ h]
/-- A slot that is filled once its operation has come. -/
def putIf (b : Bool) (d : Nat) (v : Value) (a : Act) : Act := if b then a.put (some d) v else a
theorem putIf_ne {a : Act} {d t : Nat} (h : t ≠ d) (b : Bool) (v : Value) : (putIf b d v a).eval (.tmp t) = a.eval (.tmp t) := by
  cases b
  · rfl
  · exact put_ne h v
theorem putIf_size (a : Act) (b : Bool) (d : Nat) (v : Value) : (putIf b d v a).tmps.size = a.tmps.size := by
  cases b
  · rfl
  · exact put_size a d v
theorem putIf_put {a : Act} {d e : Nat} (h : d ≠ e) (b : Bool) (u v : Value) : (putIf b d u a).put (some e) v = putIf b d u (a.put (some e) v) := by
  cases b
  · rfl
  · exact put_comm h u v
theorem run_buildT (xa : Int) (A' : Option Addr) (n' c' : Nat) (W : World) : (Instr.buildSlice 26 1 #[(0, .agg #[.int .i64 xa, .slice A' n' c'])]).run Tryz.prog W = .ok (.slice (some ⟨W.heap.size, 0, none⟩) 1 1) (W.alloc (.cells #[.int .i64 xa, .slice A' n' c'] 78)) := by kernel_rfl
theorem run_buildM (bk : Nat) (W : World) : (Instr.buildSlice 82 1 #[(0, .map (some bk))]).run Tryz.prog W = .ok (.slice (some ⟨W.heap.size, 0, none⟩) 1 1) (W.alloc (.cells #[.map (some bk)] 125)) := by kernel_rfl
section
variable {F : Fence} {n : Nat} {o : Oper} {a : Act} {K : Act → World → Prop} {Q : Exit → Act → World → Prop} {wr : World}
theorem wpIn_buildT (x : Operand) (ho : o.op = .buildSlice 26 1 #[(0, x)]) (xa : Int) (A' : Option Addr) (n' c' : Nat) (hx : a.eval x = .agg #[.int .i64 xa, .slice A' n' c'])
    (h : K (a.put o.dst (.slice (some ⟨wr.heap.size, 0, none⟩) 1 1)) (wr.alloc (.cells #[.int .i64 xa, .slice A' n' c'] 78))) : o.wpIn F n Tryz.prog a wr K Q := by
  refine ⟨fun f hf => ?_, ?_⟩
  · unfold Oper.about at hf
    rw [ho] at hf
    cases hf
  · rw [Oper.semAt_eq _ _ _ (fun c hc => by rw [ho] at hc; cases hc)]
    unfold execOp
    simp only [ho, List.map_toArray, List.map_cons, List.map_nil, hx, Sem.run_bind, run_buildT, Result.andThen_ok, Sem.run_pure]
    exact h
theorem wpIn_buildM (x : Operand) (ho : o.op = .buildSlice 82 1 #[(0, x)]) (bk : Nat) (hx : a.eval x = .map (some bk))
    (h : K (a.put o.dst (.slice (some ⟨wr.heap.size, 0, none⟩) 1 1)) (wr.alloc (.cells #[.map (some bk)] 125))) : o.wpIn F n Tryz.prog a wr K Q := by
  refine ⟨fun f hf => ?_, ?_⟩
  · unfold Oper.about at hf
    rw [ho] at hf
    cases hf
  · rw [Oper.semAt_eq _ _ _ (fun c hc => by rw [ho] at hc; cases hc)]
    unfold execOp
    simp only [ho, List.map_toArray, List.map_cons, List.map_nil, hx, Sem.run_bind, run_buildM, Result.andThen_ok, Sem.run_pure]
    exact h
theorem readsT {w : World} {B : Nat} {xa : Int} {A' : Option Addr} {n' c' : Nat} (h : BoxS w B 78 #[.int .i64 xa, .slice A' n' c']) : Reads w w.heap.size 2 (some ⟨B, 0, none⟩) 1 [.int .i64 xa, .slice A' n' c'] :=
  ⟨rfl, fun _ => ⟨_, rfl, h.lt, fun j u hu => by
    rcases j with _ | _ | j
    · obtain rfl : Value.int .i64 xa = u := by simpa using hu
      exact h.cell 0 rfl
    · obtain rfl : Value.slice A' n' c' = u := by simpa using hu
      exact h.cell 1 rfl
    · simp at hu⟩⟩
theorem readsM {w : World} {B bk : Nat} (h : BoxS w B 125 #[.map (some bk)]) : Reads w w.heap.size 1 (some ⟨B, 0, none⟩) 1 [.map (some bk)] :=
  ⟨rfl, fun _ => ⟨_, rfl, h.lt, fun j u hu => by
    rcases j with _ | j
    · obtain rfl : Value.map (some bk) = u := by simpa using hu
      exact h.cell 0 rfl
    · simp at hu⟩⟩
theorem wpIn_appT (s y : Operand) (ho : o.op = .call { callee := .builtin .append, args := #[s, y], argTypes := #[26, 26] }) (B : Nat) (v : Value) (m : Nat) (xs : List Value) (hs : a.eval s = v) (hown : wr.ownsRow B 78 2 v m xs)
    (b : Nat) (xa : Int) (A' : Option Addr) (n' c' : Nat) (hx : a.eval y = .slice (some ⟨b, 0, none⟩) 1 1) (hb : BoxS wr b 78 #[.int .i64 xa, .slice A' n' c']) (hm : m ≤ 10000) (hB : B ≤ wr.heap.size)
    (h : ∀ A'' c'' w', w'.ownsRow B 78 2 (.slice A'' (m + 1) c'') (m + 1) (xs ++ [.int .i64 xa, .slice A' n' c']) → wr.grownBy w' v.ownBlock → (Value.ownBlock (.slice A'' (m + 1) c'') = v.ownBlock ∨ Value.ownBlock (.slice A'' (m + 1) c'') = some wr.heap.size) → K (a.put o.dst (.slice A'' (m + 1) c'')) w') : o.wpIn F n Tryz.prog a wr K Q := by
  obtain ⟨i0, hi0, hz0, hz1, hz2⟩ := info_parts1w test_info
  refine wpIn_append_any wr s y 26 ho B 78 i0 (.agg #[.int .i64 0, .slice none 0 0]) 2 32 Tryz.underlying26 hi0 hz0 hz1 hz2 rfl (by decide) v m xs hs hown wr.heap.size (some ⟨b, 0, none⟩) 1 1 [.int .i64 xa, .slice A' n' c'] hx (readsT hb) (fun u hu => by
    rcases List.mem_cons.1 hu with rfl | hu
    · rfl
    · obtain rfl : u = .slice A' n' c' := by simpa using hu
      rfl) (by simp only [maxLen]; omega) (by omega) hB ?_
  intro v' w' h2 h3 h4
  obtain ⟨A'', c'', rfl⟩ := own_form2 h2
  exact h A'' c'' w' h2 h3 h4
theorem wpIn_appM (s y : Operand) (ho : o.op = .call { callee := .builtin .append, args := #[s, y], argTypes := #[82, 82] }) (B : Nat) (v : Value) (m : Nat) (xs : List Value) (hs : a.eval s = v) (hown : wr.ownsRow B 125 1 v m xs)
    (b bk : Nat) (hx : a.eval y = .slice (some ⟨b, 0, none⟩) 1 1) (hb : BoxS wr b 125 #[.map (some bk)]) (hm : m ≤ 10000) (hB : B ≤ wr.heap.size)
    (h : ∀ A'' c'' w', w'.ownsRow B 125 1 (.slice A'' (m + 1) c'') (m + 1) (xs ++ [.map (some bk)]) → wr.grownBy w' v.ownBlock → (Value.ownBlock (.slice A'' (m + 1) c'') = v.ownBlock ∨ Value.ownBlock (.slice A'' (m + 1) c'') = some wr.heap.size) → K (a.put o.dst (.slice A'' (m + 1) c'')) w') : o.wpIn F n Tryz.prog a wr K Q := by
  obtain ⟨i0, hi0, hz0, hz1, hz2⟩ := info_parts1w map_info
  refine wpIn_append_any wr s y 82 ho B 125 i0 (.map none) 1 8 Tryz.underlying82 hi0 hz0 hz1 hz2 rfl (by decide) v m xs hs hown wr.heap.size (some ⟨b, 0, none⟩) 1 1 [.map (some bk)] hx (readsM hb) (fun u hu => by
    obtain rfl : u = .map (some bk) := by simpa using hu
    rfl) (by simp only [maxLen]; omega) (by omega) hB ?_
  intro v' w' h2 h3 h4
  obtain ⟨A'', c'', rfl⟩ := owni_form h2
  exact h A'' c'' w' h2 h3 h4
end
def boxIf (b : Bool) (B : Nat) (t : TypeId) (vs : Array Value) : Thing := if b then .box B t vs else .no
def rowIf (b : Bool) (v v' : Value) (e : TypeId) (size n : Nat) (xs xs' : List Value) : Thing := if b then .row v' e size (n + 1) xs' else .row v e size n xs
/-- What holds after some of the four operations. -/
def twoI (N0 i1 i2 i3 i4 d1 d2 d3 d4 J : Nat) (tf : TypeId) (vf : Array Value) (k : Nat) (vT vM : Value) (xT xM : List Value) (xa : Int) (A' : Option Addr) (n' c' bk : Nat) (L : List Thing) (w0 : World) (a : Act) (s : Nat → Bool) (a' : Act) (w' : World) : Prop :=
  ∃ (AT AM : Option Addr) (cT cM B1 B3 : Nat), a' = putIf (s i4) d4 (.slice AM (k + 1) cM) (putIf (s i3) d3 (.slice (some ⟨B3, 0, none⟩) 1 1) (putIf (s i2) d2 (.slice AT (k + 1) cT) (putIf (s i1) d1 (.slice (some ⟨B1, 0, none⟩) 1 1) a))) ∧ Below N0 w0 w' ∧ ((s i2 = true → s i1 = true) ∧ (s i4 = true → s i3 = true)) ∧
    Has w' N0 (.box J tf vf :: rowIf (s i2) vT (.slice AT (k + 1) cT) 78 2 k xT (xT ++ [.int .i64 xa, .slice A' n' c']) :: rowIf (s i4) vM (.slice AM (k + 1) cM) 125 1 k xM (xM ++ [.map (some bk)]) ::
      boxIf (s i1) B1 78 #[.int .i64 xa, .slice A' n' c'] :: boxIf (s i3) B3 125 #[.map (some bk)] :: L)
section
variable {F : Fence} {n : Nat} {ops : Array Oper} {Q : Exit → Act → World → Prop} {md : Region.Mode} {S : World → Prop} {c : Nat}
theorem wpHeldIn_app2 (i1 i2 i3 i4 d1 d2 d3 d4 t1 tT t3 tM : Nat) {o1 o2 o3 o4 : Oper} {pre done : Array Bool} {a0 : Act} {w0 : World} {N0 J : Nat} {tf : TypeId} {vf : Array Value} {fuel f0 : Nat} {k : Nat} {vT vM : Value} {xT xM : List Value} {xa : Int} {A' : Option Addr} {n' c' bk : Nat} (hf : fuel = 4 + f0)
    (g1 : ops[i1]? = some o1) (g2 : ops[i2]? = some o2) (g3 : ops[i3]? = some o3) (g4 : ops[i4]? = some o4)
    (e1 : o1.op = .buildSlice 26 1 #[(0, .tmp t1)]) (e2 : o2.op = .call { callee := .builtin .append, args := #[.tmp tT, .tmp d1], argTypes := #[26, 26] })
    (e3 : o3.op = .buildSlice 82 1 #[(0, .tmp t3)]) (e4 : o4.op = .call { callee := .builtin .append, args := #[.tmp tM, .tmp d3], argTypes := #[82, 82] })
    (p1 : o1.dst = some d1) (p2 : o2.dst = some d2) (p3 : o3.dst = some d3) (p4 : o4.dst = some d4)
    (hchk : anyB md ops c [i1, i2, i3, i4] [(i1, i2), (i3, i4)] pre = true) (hdone : marked pre [i1, i2, i3, i4] (fun _ => true) = done) (hpre : marked pre [i1, i2, i3, i4] (fun _ => false) = pre)
    (hJ : [i1, i2, i3, i4].Nodup) (hd : [d1, d2, d3, d4, t1, tT, t3, tM].Nodup) (hsz : d1 < a0.tmps.size ∧ d3 < a0.tmps.size)
    (hx1 : a0.eval (.tmp t1) = .agg #[.int .i64 xa, .slice A' n' c']) (hxT : a0.eval (.tmp tT) = vT) (hx3 : a0.eval (.tmp t3) = .map (some bk)) (hxM : a0.eval (.tmp tM) = vM) (hk : k ≤ 10000) (hN : N0 ≤ w0.heap.size)
    (L : List Thing) (hH : Has w0 N0 (.box J tf vf :: .row vT 78 2 k xT :: .row vM 125 1 k xM :: .no :: .no :: L))
    (hS : ∀ V, Below N0 w0 V → BoxS V J tf vf → S V)
    (hend : ∀ v1 v3 AT cT AM cM T4 T5 w', Below N0 w0 w' → Has w' N0 (.box J tf vf :: .row (.slice AT (k + 1) cT) 78 2 (k + 1) (xT ++ [.int .i64 xa, .slice A' n' c']) :: .row (.slice AM (k + 1) cM) 125 1 (k + 1) (xM ++ [.map (some bk)]) :: T4 :: T5 :: L) →
      wpHeldIn F n Tryz.prog md ops Q S c f0 done ((((a0.put (some d1) v1).put (some d2) (.slice AT (k + 1) cT)).put (some d3) v3).put (some d4) (.slice AM (k + 1) cM)) w') :
    wpHeldIn F n Tryz.prog md ops Q S c fuel pre a0 w0 := by
  have hJ' := hJ
  simp only [List.nodup_cons, List.mem_cons, List.not_mem_nil, or_false, not_or, not_false_eq_true, List.nodup_nil, and_true] at hJ hd
  obtain ⟨⟨j12, j13, j14⟩, ⟨j23, j24⟩, j34⟩ := hJ
  obtain ⟨⟨d12, d13, d14, d1a, d1b, d1c, d1d⟩, ⟨d23, d24, d2a, d2b, d2c, d2d⟩, ⟨d34, d3a, d3b, d3c, d3d⟩, ⟨d4a, d4b, d4c, d4d⟩, _⟩ := hd
  have b12 : (i1 == i2) = false := beq_eq_false_iff_ne.2 j12
  have b21 : (i2 == i1) = false := beq_eq_false_iff_ne.2 (Ne.symm j12)
  have b13 : (i1 == i3) = false := beq_eq_false_iff_ne.2 j13
  have b31 : (i3 == i1) = false := beq_eq_false_iff_ne.2 (Ne.symm j13)
  have b14 : (i1 == i4) = false := beq_eq_false_iff_ne.2 j14
  have b41 : (i4 == i1) = false := beq_eq_false_iff_ne.2 (Ne.symm j14)
  have b23 : (i2 == i3) = false := beq_eq_false_iff_ne.2 j23
  have b32 : (i3 == i2) = false := beq_eq_false_iff_ne.2 (Ne.symm j23)
  have b24 : (i2 == i4) = false := beq_eq_false_iff_ne.2 j24
  have b42 : (i4 == i2) = false := beq_eq_false_iff_ne.2 (Ne.symm j24)
  have b34 : (i3 == i4) = false := beq_eq_false_iff_ne.2 j34
  have b43 : (i4 == i3) = false := beq_eq_false_iff_ne.2 (Ne.symm j34)
  refine wpHeldIn_any [i1, i2, i3, i4] [(i1, i2), (i3, i4)] (twoI N0 i1 i2 i3 i4 d1 d2 d3 d4 J tf vf k vT vM xT xM xa A' n' c' bk L w0) (f0 := f0) hf hJ' hchk hdone hpre ?_ ?_ ?_
  · exact ⟨none, none, 0, 0, 0, 0, rfl, Below.refl _ _, ⟨fun h => h, fun h => h⟩, hH⟩
  · intro j o hj ho s a w hI hsj hdep K hK
    obtain ⟨AT, AM, cT, cM, B1, B3, rfl, hB, ⟨hi2, hi4⟩, hHw⟩ := hI
    have hNw : N0 ≤ w.heap.size := Nat.le_trans hN hB.size
    have hbJ : BoxS w J tf vf := (show Thing.In w N0 (.box J tf vf) from hHw.get 0 rfl).1
    have hJl : N0 ≤ J := (show Thing.In w N0 (.box J tf vf) from hHw.get 0 rfl).2
    simp only [List.mem_cons, List.not_mem_nil, or_false] at hj
    rcases hj with rfl | rfl | rfl | rfl
    · -- the slice of one test
      rw [g1] at ho
      cases ho
      have s2 : s i2 = false := by
        cases h : s i2
        · rfl
        · rw [hi2 h] at hsj; cases hsj
      rw [s2, hsj]
      rw [s2, hsj] at hHw
      refine wpIn_buildT (.tmp t1) e1 xa A' n' c' ?_ (hK _ _ (hS _ (hB.alloc hNw _) (hbJ.alloc _)) ?_)
      · show (putIf (s i4) d4 _ (putIf (s i3) d3 _ a0)).eval (.tmp t1) = _
        rw [putIf_ne (Ne.symm d4a), putIf_ne (Ne.symm d3a)]
        exact hx1
      rw [p1]
      refine ⟨AT, AM, cT, cM, w.heap.size, B3, ?_, hB.alloc hNw _, ⟨fun h => ?_, fun h => ?_⟩, ?_⟩
      · simp only [upd, BEq.rfl, b21, b31, b41, Bool.true_or, Bool.false_or, s2, hsj]
        show (putIf (s i4) d4 _ (putIf (s i3) d3 _ a0)).put (some d1) _ = putIf (s i4) d4 _ (putIf (s i3) d3 _ (a0.put (some d1) _))
        rw [putIf_put (Ne.symm d14), putIf_put (Ne.symm d13)]
      · simp [upd]
      · simp only [upd, b31, b41, Bool.false_or] at h ⊢
        exact hi4 h
      · have := hHw.fresh 3 (by simp [boxIf]) (w' := w.alloc (.cells #[.int .i64 xa, .slice A' n' c'] 78)) (n := w.heap.size) ((Below.refl _ _).alloc (Nat.le_refl _) _) (Nat.le_refl _) (T' := .box w.heap.size 78 #[.int .i64 xa, .slice A' n' c']) ⟨BoxS.new w _ _, Nat.le_refl _⟩ hNw
        simpa [upd, boxIf, rowIf, b21, b31, b41, s2] using this
    · -- one more test
      rw [g2] at ho
      cases ho
      have s1 : s i1 = true := hdep i1 (by simp)
      rw [hsj, s1]
      rw [hsj, s1] at hHw
      have hrow : w.ownsRow N0 78 2 vT k xT := hHw.get 1 rfl
      have hbx : BoxS w B1 78 #[.int .i64 xa, .slice A' n' c'] := (show Thing.In w N0 (.box B1 78 #[.int .i64 xa, .slice A' n' c']) from hHw.get 3 rfl).1
      refine wpIn_appT (.tmp tT) (.tmp d1) e2 N0 vT k xT ?_ hrow B1 xa A' n' c' ?_ hbx hk hNw ?_
      · show (putIf (s i4) d4 _ (putIf (s i3) d3 _ (a0.put (some d1) _))).eval (.tmp tT) = _
        rw [putIf_ne (Ne.symm d4b), putIf_ne (Ne.symm d3b), put_ne (Ne.symm d1b)]
        exact hxT
      · show (putIf (s i4) d4 _ (putIf (s i3) d3 _ (a0.put (some d1) _))).eval (.tmp d1) = _
        rw [putIf_ne d14, putIf_ne d13, put_eq hsz.1]
      intro A'' c'' w' h2 h3 h4
      have hB' : Below N0 w0 w' := hB.grown h3 hNw (fun j hj => (hrow.lt j hj).1)
      have hTin : Thing.In w' N0 (.row (.slice A'' (k + 1) c'') 78 2 (k + 1) (xT ++ [Value.int .i64 xa, Value.slice A' n' c'])) := h2
      have hH' := hHw.change 1 (T := .row vT 78 2 k xT) rfl h3 (fun g h => h) hTin (fun g hg => by
        rcases h4 with h4 | h4
        · exact .inl (show vT.ownBlock = some g from h4.symm.trans hg)
        · refine .inr ?_
          have e : Thing.blk (.row (.slice A'' (k + 1) c'') 78 2 (k + 1) (xT ++ [.int .i64 xa, .slice A' n' c'])) = some w.heap.size := h4
          rw [e] at hg
          injection hg with hg
          omega)
      rw [p2]
      refine hK _ _ (hS _ hB' (show Thing.In w' N0 (.box J tf vf) from hH'.get 0 rfl).1) ?_
      refine ⟨A'', AM, c'', cM, B1, B3, ?_, hB', ⟨fun h => ?_, fun h => ?_⟩, ?_⟩
      · simp only [upd, BEq.rfl, b12, b32, b42, Bool.true_or, Bool.false_or, s1]
        show (putIf (s i4) d4 _ (putIf (s i3) d3 _ (a0.put (some d1) _))).put (some d2) _ = putIf (s i4) d4 _ (putIf (s i3) d3 _ ((a0.put (some d1) _).put (some d2) _))
        rw [putIf_put (Ne.symm d24), putIf_put (Ne.symm d23)]
      · simp only [upd, b12, Bool.false_or, s1]
      · simp only [upd, b32, b42, Bool.false_or] at h ⊢
        exact hi4 h
      · simpa [upd, boxIf, rowIf, b12, b32, b42, s1] using hH'
    · -- the slice of one map
      rw [g3] at ho
      cases ho
      have s4 : s i4 = false := by
        cases h : s i4
        · rfl
        · rw [hi4 h] at hsj; cases hsj
      rw [s4, hsj]
      rw [s4, hsj] at hHw
      refine wpIn_buildM (.tmp t3) e3 bk ?_ (hK _ _ (hS _ (hB.alloc hNw _) (hbJ.alloc _)) ?_)
      · show (putIf (s i2) d2 _ (putIf (s i1) d1 _ a0)).eval (.tmp t3) = _
        rw [putIf_ne (Ne.symm d2c), putIf_ne (Ne.symm d1c)]
        exact hx3
      rw [p3]
      refine ⟨AT, AM, cT, cM, B1, w.heap.size, ?_, hB.alloc hNw _, ⟨fun h => ?_, fun h => ?_⟩, ?_⟩
      · simp only [upd, BEq.rfl, b13, b23, b43, Bool.true_or, Bool.false_or, s4]
        rfl
      · simp only [upd, b13, b23, Bool.false_or] at h ⊢
        exact hi2 h
      · simp [upd]
      · have := hHw.fresh 4 (by simp [boxIf]) (w' := w.alloc (.cells #[.map (some bk)] 125)) (n := w.heap.size) ((Below.refl _ _).alloc (Nat.le_refl _) _) (Nat.le_refl _) (T' := .box w.heap.size 125 #[.map (some bk)]) ⟨BoxS.new w _ _, Nat.le_refl _⟩ hNw
        simpa [upd, boxIf, rowIf, b13, b23, b43, s4] using this
    · -- one more map
      rw [g4] at ho
      cases ho
      have s3 : s i3 = true := hdep i3 (by simp)
      rw [hsj, s3]
      rw [hsj, s3] at hHw
      have hrow : w.ownsRow N0 125 1 vM k xM := hHw.get 2 rfl
      have hbx : BoxS w B3 125 #[.map (some bk)] := (show Thing.In w N0 (.box B3 125 #[.map (some bk)]) from hHw.get 4 rfl).1
      refine wpIn_appM (.tmp tM) (.tmp d3) e4 N0 vM k xM ?_ hrow B3 bk ?_ hbx hk hNw ?_
      · show ((putIf (s i2) d2 _ (putIf (s i1) d1 _ a0)).put (some d3) _).eval (.tmp tM) = _
        rw [put_ne (Ne.symm d3d), putIf_ne (Ne.symm d2d), putIf_ne (Ne.symm d1d)]
        exact hxM
      · show ((putIf (s i2) d2 _ (putIf (s i1) d1 _ a0)).put (some d3) _).eval (.tmp d3) = _
        rw [put_eq (by rw [putIf_size, putIf_size]; exact hsz.2)]
      intro A'' c'' w' h2 h3 h4
      have hB' : Below N0 w0 w' := hB.grown h3 hNw (fun j hj => (hrow.lt j hj).1)
      have hTin : Thing.In w' N0 (.row (.slice A'' (k + 1) c'') 125 1 (k + 1) (xM ++ [Value.map (some bk)])) := h2
      have hH' := hHw.change 2 (T := .row vM 125 1 k xM) rfl h3 (fun g h => h) hTin (fun g hg => by
        rcases h4 with h4 | h4
        · exact .inl (show vM.ownBlock = some g from h4.symm.trans hg)
        · refine .inr ?_
          have e : Thing.blk (.row (.slice A'' (k + 1) c'') 125 1 (k + 1) (xM ++ [.map (some bk)])) = some w.heap.size := h4
          rw [e] at hg
          injection hg with hg
          omega)
      rw [p4]
      refine hK _ _ (hS _ hB' (show Thing.In w' N0 (.box J tf vf) from hH'.get 0 rfl).1) ?_
      refine ⟨AT, A'', cT, c'', B1, B3, ?_, hB', ⟨fun h => ?_, fun h => ?_⟩, ?_⟩
      · simp only [upd, BEq.rfl, b14, b24, b34, Bool.true_or, Bool.false_or, s3]
        rfl
      · simp only [upd, b14, b24, Bool.false_or] at h ⊢
        exact hi2 h
      · simp only [upd, b34, Bool.false_or, s3]
      · simpa [upd, boxIf, rowIf, b14, b24, b34, s3] using hH'
  · intro s a w hall hI
    obtain ⟨AT, AM, cT, cM, B1, B3, rfl, hB, _, hHw⟩ := hI
    have s1 := hall i1 (by simp)
    have s2 := hall i2 (by simp)
    have s3 := hall i3 (by simp)
    have s4 := hall i4 (by simp)
    rw [s1, s2, s3, s4] at hHw
    rw [s1, s2, s3, s4]
    exact hend _ _ AT cT AM cM _ _ w hB hHw
end
end Go.Proofs.YtkmacpkjobdffaaGreat
namespace Go.Proofs.YtkmacpkjobdffaaGreat
open Go.RowKit Go.Maps
section
variable {F : Fence} {n : Nat} {o : Oper} {a : Act} {K : Act → World → Prop} {Q : Exit → Act → World → Prop} {wr : World}
theorem wpIn_loadT (p : Nat) (ho : o.op = .load 26 (.tmp p)) (J i : Nat) (A : Option Addr) (m c : Nat) (hx : a.eval (.tmp p) = .pointer (some ⟨J, i, none⟩)) (hc : wr.cell? ⟨J, i, none⟩ = some (.slice A m c)) (h : K (a.put o.dst (.slice A m c)) wr) : o.wpIn F n Tryz.prog a wr K Q := by
  obtain ⟨dst, op, ty, pos, after, guard⟩ := o
  dsimp only at ho h
  subst ho
  refine ⟨fun f hf => ?_, ?_⟩
  · cases hf
  · rw [Oper.semAt_eq _ _ _ (fun c hc => by cases hc)]
    unfold execOp
    simp only [hx]
    go_simp
    exact h
theorem wpIn_storeT (p q : Nat) (ho : o.op = .store 26 (.tmp p) (.tmp q)) (hd : o.dst = none) (J i : Nat) (A : Option Addr) (m c : Nat) (u : Value) (hx : a.eval (.tmp p) = .pointer (some ⟨J, i, none⟩)) (hy : a.eval (.tmp q) = .slice A m c) (hc : wr.cell? ⟨J, i, none⟩ = some u) (hf : wr.frozen? ⟨J, i, none⟩ = false) (h : K a (wr.setCell ⟨J, i, none⟩ (.slice A m c))) : o.wpIn F n Tryz.prog a wr K Q := by
  obtain ⟨dst, op, ty, pos, after, guard⟩ := o
  dsimp only at ho h hd
  subst ho hd
  refine ⟨fun f hf => ?_, ?_⟩
  · cases hf
  · rw [Oper.semAt_eq _ _ _ (fun c hc => by cases hc)]
    unfold execOp
    simp only [hx, hy]
    go_simp
    exact h
theorem wpIn_loadM (p : Nat) (ho : o.op = .load 82 (.tmp p)) (J i : Nat) (A : Option Addr) (m c : Nat) (hx : a.eval (.tmp p) = .pointer (some ⟨J, i, none⟩)) (hc : wr.cell? ⟨J, i, none⟩ = some (.slice A m c)) (h : K (a.put o.dst (.slice A m c)) wr) : o.wpIn F n Tryz.prog a wr K Q := by
  obtain ⟨dst, op, ty, pos, after, guard⟩ := o
  dsimp only at ho h
  subst ho
  refine ⟨fun f hf => ?_, ?_⟩
  · cases hf
  · rw [Oper.semAt_eq _ _ _ (fun c hc => by cases hc)]
    unfold execOp
    simp only [hx]
    go_simp
    exact h
theorem wpIn_storeM (p q : Nat) (ho : o.op = .store 82 (.tmp p) (.tmp q)) (hd : o.dst = none) (J i : Nat) (A : Option Addr) (m c : Nat) (u : Value) (hx : a.eval (.tmp p) = .pointer (some ⟨J, i, none⟩)) (hy : a.eval (.tmp q) = .slice A m c) (hc : wr.cell? ⟨J, i, none⟩ = some u) (hf : wr.frozen? ⟨J, i, none⟩ = false) (h : K a (wr.setCell ⟨J, i, none⟩ (.slice A m c))) : o.wpIn F n Tryz.prog a wr K Q := by
  obtain ⟨dst, op, ty, pos, after, guard⟩ := o
  dsimp only at ho h hd
  subst ho hd
  refine ⟨fun f hf => ?_, ?_⟩
  · cases hf
  · rw [Oper.semAt_eq _ _ _ (fun c hc => by cases hc)]
    unfold execOp
    simp only [hx, hy]
    go_simp
    exact h
theorem wpIn_fld0 (ho : o.op = .fieldAddr 84 (.tmp 5) 0) (J : Nat) (hx : a.eval (.tmp 5) = .pointer (some ⟨J, 0, none⟩)) (h : K (a.put o.dst (.pointer (some ⟨J, 0, none⟩))) wr) : o.wpIn F n Tryz.prog a wr K Q := by
  obtain ⟨dst, op, ty, pos, after, guard⟩ := o
  dsimp only at ho h
  subst ho
  refine ⟨fun f hf => ?_, ?_⟩
  · cases hf
  · rw [Oper.semAt_eq _ _ _ (fun c hc => by cases hc)]
    unfold execOp
    simp only [hx]
    go_simp
    exact h
theorem wpIn_fld1 (ho : o.op = .fieldAddr 28 (.tmp 39) 2) (J : Nat) (hx : a.eval (.tmp 39) = .pointer (some ⟨J, 0, none⟩)) (h : K (a.put o.dst (.pointer (some ⟨J, 9, none⟩))) wr) : o.wpIn F n Tryz.prog a wr K Q := by
  obtain ⟨dst, op, ty, pos, after, guard⟩ := o
  dsimp only at ho h
  subst ho
  refine ⟨fun f hf => ?_, ?_⟩
  · cases hf
  · rw [Oper.semAt_eq _ _ _ (fun c hc => by cases hc)]
    unfold execOp
    simp only [hx]
    go_simp
    exact h
theorem wpIn_fld2 (ho : o.op = .fieldAddr 84 (.tmp 5) 1) (J : Nat) (hx : a.eval (.tmp 5) = .pointer (some ⟨J, 0, none⟩)) (h : K (a.put o.dst (.pointer (some ⟨J, 10, none⟩))) wr) : o.wpIn F n Tryz.prog a wr K Q := by
  obtain ⟨dst, op, ty, pos, after, guard⟩ := o
  dsimp only at ho h
  subst ho
  refine ⟨fun f hf => ?_, ?_⟩
  · cases hf
  · rw [Oper.semAt_eq _ _ _ (fun c hc => by cases hc)]
    unfold execOp
    simp only [hx]
    go_simp
    exact h
end
theorem upd_eq (s : Nat → Bool) (j : Nat) : upd s j j = true := by simp [upd]
theorem upd_ne {s : Nat → Bool} {j k : Nat} (h : k ≠ j) : upd s j k = s k := by simp [upd, h]
/-- What holds after some of the operations. -/
def eightI (N0 J : Nat) (tf : TypeId) (vf : Value → Value → Array Value) (k : Nat) (AT0 : Option Addr) (cT0 : Nat) (AM0 : Option Addr) (cM0 : Nat) (xT xM : List Value) (xa : Int) (A' : Option Addr) (n' c' bk : Nat) (L : List Thing) (w0 : World) (a0 : Act) (s : Nat → Bool) (a' : Act) (w' : World) : Prop :=
  ∃ (AT AM : Option Addr) (cT cM B1 B3 : Nat), a' = (putIf (s 23) 41 (.pointer (some ⟨J, 10, none⟩)) (putIf (s 21) 40 (.pointer (some ⟨J, 9, none⟩)) (putIf (s 20) 39 (.pointer (some ⟨J, 0, none⟩)) (putIf (s 19) 38 (.slice AM (k + 1) cM) (putIf (s 18) 37 (.slice (some ⟨B3, 0, none⟩) 1 1) (putIf (s 10) 29 (.slice AT (k + 1) cT) (putIf (s 9) 28 (.slice (some ⟨B1, 0, none⟩) 1 1) (putIf (s 12) 31 (.slice AM0 k cM0) (putIf (s 2) 21 (.slice AT0 k cT0) a0))))))))) ∧ Below N0 w0 w' ∧ ((s 10 = true → s 9 = true ∧ s 2 = true) ∧ (s 19 = true → s 18 = true ∧ s 12 = true) ∧ (s 20 = true → s 10 = true) ∧ (s 21 = true → s 20 = true) ∧ (s 22 = true → s 21 = true) ∧ (s 23 = true → s 12 = true) ∧ (s 24 = true → s 19 = true ∧ s 23 = true)) ∧
    Has w' N0 (.box J tf (vf (if s 22 then .slice AT (k + 1) cT else .slice AT0 k cT0) (if s 24 then .slice AM (k + 1) cM else .slice AM0 k cM0)) :: rowIf (s 10) (.slice AT0 k cT0) (.slice AT (k + 1) cT) 78 2 k xT (xT ++ [.int .i64 xa, .slice A' n' c']) :: rowIf (s 19) (.slice AM0 k cM0) (.slice AM (k + 1) cM) 125 1 k xM (xM ++ [.map (some bk)]) :: boxIf (s 9) B1 78 #[.int .i64 xa, .slice A' n' c'] :: boxIf (s 18) B3 125 #[.map (some bk)] :: L)
section
variable {F : Fence} {n : Nat} {ops : Array Oper} {Q : Exit → Act → World → Prop} {md : Region.Mode} {S : World → Prop} {c : Nat}
theorem wpHeldIn_app8 {o1 o2 o3 o4 o5 o6 o7 o8 o9 o10 o11 : Oper} {pre done : Array Bool} {a0 : Act} {w0 : World} {N0 J : Nat} {tf : TypeId} {vf : Value → Value → Array Value} {fuel f0 : Nat} {k : Nat} {AT0 : Option Addr} {cT0 : Nat} {AM0 : Option Addr} {cM0 : Nat} {xT xM : List Value} {xa : Int} {A' : Option Addr} {n' c' bk : Nat} (hf : fuel = 11 + f0)
    (g1 : ops[2]? = some o1) (g2 : ops[12]? = some o2) (g3 : ops[9]? = some o3) (g4 : ops[10]? = some o4) (g5 : ops[18]? = some o5) (g6 : ops[19]? = some o6) (g7 : ops[22]? = some o7) (g8 : ops[24]? = some o8) (g9 : ops[20]? = some o9) (g10 : ops[21]? = some o10) (g11 : ops[23]? = some o11)
    (e1 : o1.op = .load 26 (.tmp 20)) (e2 : o2.op = .load 82 (.tmp 30))
    (e3 : o3.op = .buildSlice 26 1 #[(0, .tmp 27)]) (e4 : o4.op = .call { callee := .builtin .append, args := #[.tmp 21, .tmp 28], argTypes := #[26, 26] })
    (e5 : o5.op = .buildSlice 82 1 #[(0, .tmp 36)]) (e6 : o6.op = .call { callee := .builtin .append, args := #[.tmp 31, .tmp 37], argTypes := #[82, 82] })
    (e7 : o7.op = .store 26 (.tmp 40) (.tmp 29)) (e8 : o8.op = .store 82 (.tmp 41) (.tmp 38))
    (e9 : o9.op = .fieldAddr 84 (.tmp 5) 0) (e10 : o10.op = .fieldAddr 28 (.tmp 39) 2) (e11 : o11.op = .fieldAddr 84 (.tmp 5) 1)
    (p1 : o1.dst = some 21) (p2 : o2.dst = some 31) (p3 : o3.dst = some 28) (p4 : o4.dst = some 29) (p5 : o5.dst = some 37) (p6 : o6.dst = some 38) (p7 : o7.dst = none) (p8 : o8.dst = none) (p9 : o9.dst = some 39) (p10 : o10.dst = some 40) (p11 : o11.dst = some 41)
    (hchk : anyD md ops c [2, 12, 9, 10, 18, 19, 20, 21, 22, 23, 24] [(2, 10), (9, 10), (12, 19), (18, 19), (10, 20), (12, 20), (20, 21), (21, 22), (10, 23), (12, 23), (23, 24), (19, 24)] pre = true) (hdone : marked pre [2, 12, 9, 10, 18, 19, 20, 21, 22, 23, 24] (fun _ => true) = done) (hpre : marked pre [2, 12, 9, 10, 18, 19, 20, 21, 22, 23, 24] (fun _ => false) = pre)
    (hsz : 41 < a0.tmps.size)
    (hx1 : a0.eval (.tmp 20) = .pointer (some ⟨J, 9, none⟩)) (hx2 : a0.eval (.tmp 30) = .pointer (some ⟨J, 10, none⟩)) (hx3 : a0.eval (.tmp 27) = .agg #[.int .i64 xa, .slice A' n' c']) (hx5 : a0.eval (.tmp 36) = .map (some bk)) (hx9 : a0.eval (.tmp 5) = .pointer (some ⟨J, 0, none⟩)) (hk : k ≤ 10000) (hN : N0 ≤ w0.heap.size)
    (hv9 : ∀ x y, (vf x y)[9]? = some x) (hv10 : ∀ x y, (vf x y)[10]? = some y) (hs9 : ∀ x y z, (vf x y).setIfInBounds 9 z = vf z y) (hs10 : ∀ x y z, (vf x y).setIfInBounds 10 z = vf x z)
    (L : List Thing) (hH : Has w0 N0 (.box J tf (vf (.slice AT0 k cT0) (.slice AM0 k cM0)) :: .row (.slice AT0 k cT0) 78 2 k xT :: .row (.slice AM0 k cM0) 125 1 k xM :: .no :: .no :: L))
    (hS : ∀ V, Below N0 w0 V → S V)
    (hend : ∀ v1 v3 AT cT AM cM T4 T5 w', Below N0 w0 w' → Has w' N0 (.box J tf (vf (.slice AT (k + 1) cT) (.slice AM (k + 1) cM)) :: .row (.slice AT (k + 1) cT) 78 2 (k + 1) (xT ++ [.int .i64 xa, .slice A' n' c']) :: .row (.slice AM (k + 1) cM) 125 1 (k + 1) (xM ++ [.map (some bk)]) :: T4 :: T5 :: L) →
      wpHeldIn F n Tryz.prog md ops Q S c f0 done ((((((((((((((((((a0).put (some 21) (.slice AT0 k cT0))).put (some 31) (.slice AM0 k cM0))).put (some 28) v1)).put (some 29) (.slice AT (k + 1) cT))).put (some 37) v3)).put (some 38) (.slice AM (k + 1) cM))).put (some 39) (.pointer (some ⟨J, 0, none⟩)))).put (some 40) (.pointer (some ⟨J, 9, none⟩)))).put (some 41) (.pointer (some ⟨J, 10, none⟩))) w') :
    wpHeldIn F n Tryz.prog md ops Q S c fuel pre a0 w0 := by
  refine wpHeldIn_anyD [2, 12, 9, 10, 18, 19, 20, 21, 22, 23, 24] [(2, 10), (9, 10), (12, 19), (18, 19), (10, 20), (12, 20), (20, 21), (21, 22), (10, 23), (12, 23), (23, 24), (19, 24)] (eightI N0 J tf vf k AT0 cT0 AM0 cM0 xT xM xa A' n' c' bk L w0) (f0 := f0) hf (by decide) hchk hdone hpre ?_ ?_ ?_
  · exact ⟨none, none, 0, 0, 0, 0, rfl, Below.refl _ _, ⟨fun h => (by cases h), fun h => (by cases h), fun h => (by cases h), fun h => (by cases h), fun h => (by cases h), fun h => (by cases h), fun h => (by cases h)⟩, hH⟩
  · intro j o hj ho s a w hI hsj hdep K hK
    obtain ⟨AT, AM, cT, cM, B1, B3, rfl, hB, ⟨h10, h19, h20, h21, h22, h23, h24⟩, hHw⟩ := hI
    have hNw : N0 ≤ w.heap.size := Nat.le_trans hN hB.size
    have hbJ : BoxS w J tf (vf (if s 22 then .slice AT (k + 1) cT else .slice AT0 k cT0) (if s 24 then .slice AM (k + 1) cM else .slice AM0 k cM0)) := (show Thing.In w N0 (.box J tf (vf (if s 22 then .slice AT (k + 1) cT else .slice AT0 k cT0) (if s 24 then .slice AM (k + 1) cM else .slice AM0 k cM0))) from hHw.get 0 rfl).1
    have hJl : N0 ≤ J := (show Thing.In w N0 (.box J tf (vf (if s 22 then .slice AT (k + 1) cT else .slice AT0 k cT0) (if s 24 then .slice AM (k + 1) cM else .slice AM0 k cM0))) from hHw.get 0 rfl).2
    have n10 : s 9 = false ∨ s 2 = false → s 10 = false := fun h => by
      cases h' : s 10
      · rfl
      · have := h10 h'; rcases h with h | h <;> simp [h] at this
    have n19 : s 18 = false ∨ s 12 = false → s 19 = false := fun h => by
      cases h' : s 19
      · rfl
      · have := h19 h'; rcases h with h | h <;> simp [h] at this
    have n20 : s 10 = false → s 20 = false := fun h => by
      cases h' : s 20
      · rfl
      · have := h20 h'; simp [h] at this
    have n21 : s 20 = false → s 21 = false := fun h => by
      cases h' : s 21
      · rfl
      · have := h21 h'; simp [h] at this
    have n22 : s 21 = false → s 22 = false := fun h => by
      cases h' : s 22
      · rfl
      · have := h22 h'; simp [h] at this
    have n23 : s 12 = false → s 23 = false := fun h => by
      cases h' : s 23
      · rfl
      · have := h23 h'; simp [h] at this
    have n24 : s 19 = false ∨ s 23 = false → s 24 = false := fun h => by
      cases h' : s 24
      · rfl
      · have := h24 h'; rcases h with h | h <;> simp [h] at this
    rcases (by simpa using hj : j = 2 ∨ j = 12 ∨ j = 9 ∨ j = 10 ∨ j = 18 ∨ j = 19 ∨ j = 20 ∨ j = 21 ∨ j = 22 ∨ j = 23 ∨ j = 24) with rfl | rfl | rfl | rfl | rfl | rfl | rfl | rfl | rfl | rfl | rfl
    · -- the tests
      rw [g1] at ho
      cases ho
      have s10 := n10 (.inr hsj)
      have s20 := n20 s10
      have s21 := n21 s20
      have s22 := n22 s21
      have s2 := hsj
      simp only [s22, s21, s20, s10, s2] at hbJ hHw ⊢
      refine wpIn_loadT 20 e1 J 9 AT0 k cT0 ?_ (hbJ.cell 9 (hv9 _ _)) ?_
      · show ((putIf (s 23) 41 (.pointer (some ⟨J, 10, none⟩)) (putIf (s 19) 38 (.slice AM (k + 1) cM) (putIf (s 18) 37 (.slice (some ⟨B3, 0, none⟩) 1 1) (putIf (s 9) 28 (.slice (some ⟨B1, 0, none⟩) 1 1) (putIf (s 12) 31 (.slice AM0 k cM0) a0)))))).eval (.tmp 20) = _
        rw [putIf_ne (by decide), putIf_ne (by decide), putIf_ne (by decide), putIf_ne (by decide), putIf_ne (by decide)]
        exact hx1
      rw [p1]
      clear hsj
      refine hK _ _ (hS _ hB) ⟨AT, AM, cT, cM, B1, B3, ?_, hB, ?_, ?_⟩
      · simp only [upd_eq, upd_ne (s := s) (j := 2) (k := 12) (by decide), upd_ne (s := s) (j := 2) (k := 9) (by decide), upd_ne (s := s) (j := 2) (k := 10) (by decide), upd_ne (s := s) (j := 2) (k := 18) (by decide), upd_ne (s := s) (j := 2) (k := 19) (by decide), upd_ne (s := s) (j := 2) (k := 20) (by decide), upd_ne (s := s) (j := 2) (k := 21) (by decide), upd_ne (s := s) (j := 2) (k := 22) (by decide), upd_ne (s := s) (j := 2) (k := 23) (by decide), upd_ne (s := s) (j := 2) (k := 24) (by decide), s10, s20, s21, s22]
        show ((putIf (s 23) 41 (.pointer (some ⟨J, 10, none⟩)) (putIf (s 19) 38 (.slice AM (k + 1) cM) (putIf (s 18) 37 (.slice (some ⟨B3, 0, none⟩) 1 1) (putIf (s 9) 28 (.slice (some ⟨B1, 0, none⟩) 1 1) (putIf (s 12) 31 (.slice AM0 k cM0) a0)))))).put (some 21) _ = (putIf (s 23) 41 (.pointer (some ⟨J, 10, none⟩)) (putIf (s 19) 38 (.slice AM (k + 1) cM) (putIf (s 18) 37 (.slice (some ⟨B3, 0, none⟩) 1 1) (putIf (s 9) 28 (.slice (some ⟨B1, 0, none⟩) 1 1) (putIf (s 12) 31 (.slice AM0 k cM0) ((a0).put (some 21) (.slice AT0 k cT0)))))))
        rw [putIf_put (by decide), putIf_put (by decide), putIf_put (by decide), putIf_put (by decide), putIf_put (by decide)]
      · simp only [upd_eq, upd_ne (s := s) (j := 2) (k := 12) (by decide), upd_ne (s := s) (j := 2) (k := 9) (by decide), upd_ne (s := s) (j := 2) (k := 10) (by decide), upd_ne (s := s) (j := 2) (k := 18) (by decide), upd_ne (s := s) (j := 2) (k := 19) (by decide), upd_ne (s := s) (j := 2) (k := 20) (by decide), upd_ne (s := s) (j := 2) (k := 21) (by decide), upd_ne (s := s) (j := 2) (k := 22) (by decide), upd_ne (s := s) (j := 2) (k := 23) (by decide), upd_ne (s := s) (j := 2) (k := 24) (by decide), s10, s20, s21, s22]
        refine ⟨?_, ?_, ?_, ?_, ?_, ?_, ?_⟩ <;> first | exact fun h => (by simp at h) | exact h10 | exact h19 | exact h20 | exact h21 | exact h22 | exact h23 | exact h24 | exact fun _ => trivial | exact fun _ => ⟨trivial, trivial⟩ | (simp; done) | (intro h; have g10 := h10; have g19 := h19; have g20 := h20; have g21 := h21; have g22 := h22; have g23 := h23; have g24 := h24; simp_all; done)
      · simpa [upd_eq, upd_ne (s := s) (j := 2) (k := 12) (by decide), upd_ne (s := s) (j := 2) (k := 9) (by decide), upd_ne (s := s) (j := 2) (k := 10) (by decide), upd_ne (s := s) (j := 2) (k := 18) (by decide), upd_ne (s := s) (j := 2) (k := 19) (by decide), upd_ne (s := s) (j := 2) (k := 20) (by decide), upd_ne (s := s) (j := 2) (k := 21) (by decide), upd_ne (s := s) (j := 2) (k := 22) (by decide), upd_ne (s := s) (j := 2) (k := 23) (by decide), upd_ne (s := s) (j := 2) (k := 24) (by decide), boxIf, rowIf, s10, s20, s21, s22] using hHw
    · -- the maps
      rw [g2] at ho
      cases ho
      have s19 := n19 (.inr hsj)
      have s23 := n23 hsj
      have s24 := n24 (.inl s19)
      have s12 := hsj
      simp only [s24, s23, s19, s12] at hbJ hHw ⊢
      refine wpIn_loadM 30 e2 J 10 AM0 k cM0 ?_ (hbJ.cell 10 (hv10 _ _)) ?_
      · show ((putIf (s 21) 40 (.pointer (some ⟨J, 9, none⟩)) (putIf (s 20) 39 (.pointer (some ⟨J, 0, none⟩)) (putIf (s 18) 37 (.slice (some ⟨B3, 0, none⟩) 1 1) (putIf (s 10) 29 (.slice AT (k + 1) cT) (putIf (s 9) 28 (.slice (some ⟨B1, 0, none⟩) 1 1) (putIf (s 2) 21 (.slice AT0 k cT0) a0))))))).eval (.tmp 30) = _
        rw [putIf_ne (by decide), putIf_ne (by decide), putIf_ne (by decide), putIf_ne (by decide), putIf_ne (by decide), putIf_ne (by decide)]
        exact hx2
      rw [p2]
      clear hsj
      refine hK _ _ (hS _ hB) ⟨AT, AM, cT, cM, B1, B3, ?_, hB, ?_, ?_⟩
      · simp only [upd_eq, upd_ne (s := s) (j := 12) (k := 2) (by decide), upd_ne (s := s) (j := 12) (k := 9) (by decide), upd_ne (s := s) (j := 12) (k := 10) (by decide), upd_ne (s := s) (j := 12) (k := 18) (by decide), upd_ne (s := s) (j := 12) (k := 19) (by decide), upd_ne (s := s) (j := 12) (k := 20) (by decide), upd_ne (s := s) (j := 12) (k := 21) (by decide), upd_ne (s := s) (j := 12) (k := 22) (by decide), upd_ne (s := s) (j := 12) (k := 23) (by decide), upd_ne (s := s) (j := 12) (k := 24) (by decide), s19, s23, s24]
        show ((putIf (s 21) 40 (.pointer (some ⟨J, 9, none⟩)) (putIf (s 20) 39 (.pointer (some ⟨J, 0, none⟩)) (putIf (s 18) 37 (.slice (some ⟨B3, 0, none⟩) 1 1) (putIf (s 10) 29 (.slice AT (k + 1) cT) (putIf (s 9) 28 (.slice (some ⟨B1, 0, none⟩) 1 1) (putIf (s 2) 21 (.slice AT0 k cT0) a0))))))).put (some 31) _ = (putIf (s 21) 40 (.pointer (some ⟨J, 9, none⟩)) (putIf (s 20) 39 (.pointer (some ⟨J, 0, none⟩)) (putIf (s 18) 37 (.slice (some ⟨B3, 0, none⟩) 1 1) (putIf (s 10) 29 (.slice AT (k + 1) cT) (putIf (s 9) 28 (.slice (some ⟨B1, 0, none⟩) 1 1) (((putIf (s 2) 21 (.slice AT0 k cT0) a0)).put (some 31) (.slice AM0 k cM0)))))))
        rw [putIf_put (by decide), putIf_put (by decide), putIf_put (by decide), putIf_put (by decide), putIf_put (by decide)]
      · simp only [upd_eq, upd_ne (s := s) (j := 12) (k := 2) (by decide), upd_ne (s := s) (j := 12) (k := 9) (by decide), upd_ne (s := s) (j := 12) (k := 10) (by decide), upd_ne (s := s) (j := 12) (k := 18) (by decide), upd_ne (s := s) (j := 12) (k := 19) (by decide), upd_ne (s := s) (j := 12) (k := 20) (by decide), upd_ne (s := s) (j := 12) (k := 21) (by decide), upd_ne (s := s) (j := 12) (k := 22) (by decide), upd_ne (s := s) (j := 12) (k := 23) (by decide), upd_ne (s := s) (j := 12) (k := 24) (by decide), s19, s23, s24]
        refine ⟨?_, ?_, ?_, ?_, ?_, ?_, ?_⟩ <;> first | exact fun h => (by simp at h) | exact h10 | exact h19 | exact h20 | exact h21 | exact h22 | exact h23 | exact h24 | exact fun _ => trivial | exact fun _ => ⟨trivial, trivial⟩ | (simp; done) | (intro h; have g10 := h10; have g19 := h19; have g20 := h20; have g21 := h21; have g22 := h22; have g23 := h23; have g24 := h24; simp_all; done)
      · simpa [upd_eq, upd_ne (s := s) (j := 12) (k := 2) (by decide), upd_ne (s := s) (j := 12) (k := 9) (by decide), upd_ne (s := s) (j := 12) (k := 10) (by decide), upd_ne (s := s) (j := 12) (k := 18) (by decide), upd_ne (s := s) (j := 12) (k := 19) (by decide), upd_ne (s := s) (j := 12) (k := 20) (by decide), upd_ne (s := s) (j := 12) (k := 21) (by decide), upd_ne (s := s) (j := 12) (k := 22) (by decide), upd_ne (s := s) (j := 12) (k := 23) (by decide), upd_ne (s := s) (j := 12) (k := 24) (by decide), boxIf, rowIf, s19, s23, s24] using hHw
    · -- the slice of one test
      rw [g3] at ho
      cases ho
      have s10 := n10 (.inl hsj)
      have s20 := n20 s10
      have s21 := n21 s20
      have s22 := n22 s21
      have s9 := hsj
      simp only [s22, s21, s20, s10, s9] at hbJ hHw ⊢
      refine wpIn_buildT (.tmp 27) e3 xa A' n' c' ?_ (hK _ _ (hS _ (hB.alloc hNw _)) ?_)
      · show ((putIf (s 23) 41 (.pointer (some ⟨J, 10, none⟩)) (putIf (s 19) 38 (.slice AM (k + 1) cM) (putIf (s 18) 37 (.slice (some ⟨B3, 0, none⟩) 1 1) (putIf (s 12) 31 (.slice AM0 k cM0) (putIf (s 2) 21 (.slice AT0 k cT0) a0)))))).eval (.tmp 27) = _
        rw [putIf_ne (by decide), putIf_ne (by decide), putIf_ne (by decide), putIf_ne (by decide), putIf_ne (by decide)]
        exact hx3
      rw [p3]
      clear hsj
      have hfr := hHw.fresh 3 (by simp [boxIf]) (w' := w.alloc (.cells #[.int .i64 xa, .slice A' n' c'] 78)) (n := w.heap.size) ((Below.refl _ _).alloc (Nat.le_refl _) _) (Nat.le_refl _) (T' := .box w.heap.size 78 #[.int .i64 xa, .slice A' n' c']) ⟨BoxS.new w _ _, Nat.le_refl _⟩ hNw
      refine ⟨AT, AM, cT, cM, w.heap.size, B3, ?_, hB.alloc hNw _, ?_, ?_⟩
      · simp only [upd_eq, upd_ne (s := s) (j := 9) (k := 2) (by decide), upd_ne (s := s) (j := 9) (k := 12) (by decide), upd_ne (s := s) (j := 9) (k := 10) (by decide), upd_ne (s := s) (j := 9) (k := 18) (by decide), upd_ne (s := s) (j := 9) (k := 19) (by decide), upd_ne (s := s) (j := 9) (k := 20) (by decide), upd_ne (s := s) (j := 9) (k := 21) (by decide), upd_ne (s := s) (j := 9) (k := 22) (by decide), upd_ne (s := s) (j := 9) (k := 23) (by decide), upd_ne (s := s) (j := 9) (k := 24) (by decide), s10, s20, s21, s22]
        show ((putIf (s 23) 41 (.pointer (some ⟨J, 10, none⟩)) (putIf (s 19) 38 (.slice AM (k + 1) cM) (putIf (s 18) 37 (.slice (some ⟨B3, 0, none⟩) 1 1) (putIf (s 12) 31 (.slice AM0 k cM0) (putIf (s 2) 21 (.slice AT0 k cT0) a0)))))).put (some 28) _ = (putIf (s 23) 41 (.pointer (some ⟨J, 10, none⟩)) (putIf (s 19) 38 (.slice AM (k + 1) cM) (putIf (s 18) 37 (.slice (some ⟨B3, 0, none⟩) 1 1) (((putIf (s 12) 31 (.slice AM0 k cM0) (putIf (s 2) 21 (.slice AT0 k cT0) a0))).put (some 28) (.slice (some ⟨w.heap.size, 0, none⟩) 1 1)))))
        rw [putIf_put (by decide), putIf_put (by decide), putIf_put (by decide)]
      · simp only [upd_eq, upd_ne (s := s) (j := 9) (k := 2) (by decide), upd_ne (s := s) (j := 9) (k := 12) (by decide), upd_ne (s := s) (j := 9) (k := 10) (by decide), upd_ne (s := s) (j := 9) (k := 18) (by decide), upd_ne (s := s) (j := 9) (k := 19) (by decide), upd_ne (s := s) (j := 9) (k := 20) (by decide), upd_ne (s := s) (j := 9) (k := 21) (by decide), upd_ne (s := s) (j := 9) (k := 22) (by decide), upd_ne (s := s) (j := 9) (k := 23) (by decide), upd_ne (s := s) (j := 9) (k := 24) (by decide), s10, s20, s21, s22]
        refine ⟨?_, ?_, ?_, ?_, ?_, ?_, ?_⟩ <;> first | exact fun h => (by simp at h) | exact h10 | exact h19 | exact h20 | exact h21 | exact h22 | exact h23 | exact h24 | exact fun _ => trivial | exact fun _ => ⟨trivial, trivial⟩ | (simp; done) | (intro h; have g10 := h10; have g19 := h19; have g20 := h20; have g21 := h21; have g22 := h22; have g23 := h23; have g24 := h24; simp_all; done)
      · simpa [upd_eq, upd_ne (s := s) (j := 9) (k := 2) (by decide), upd_ne (s := s) (j := 9) (k := 12) (by decide), upd_ne (s := s) (j := 9) (k := 10) (by decide), upd_ne (s := s) (j := 9) (k := 18) (by decide), upd_ne (s := s) (j := 9) (k := 19) (by decide), upd_ne (s := s) (j := 9) (k := 20) (by decide), upd_ne (s := s) (j := 9) (k := 21) (by decide), upd_ne (s := s) (j := 9) (k := 22) (by decide), upd_ne (s := s) (j := 9) (k := 23) (by decide), upd_ne (s := s) (j := 9) (k := 24) (by decide), boxIf, rowIf, s10, s20, s21, s22] using hfr
    · -- one more test
      rw [g4] at ho
      cases ho
      have s9 : s 9 = true := hdep 9 (by simp)
      have s2 : s 2 = true := hdep 2 (by simp)
      have s20 := n20 hsj
      have s21 := n21 s20
      have s22 := n22 s21
      have s10 := hsj
      simp only [s22, s21, s20, s9, s2, s10] at hbJ hHw ⊢
      have hrow : w.ownsRow N0 78 2 (.slice AT0 k cT0) k xT := hHw.get 1 rfl
      have hbx : BoxS w B1 78 #[.int .i64 xa, .slice A' n' c'] := (show Thing.In w N0 (.box B1 78 #[.int .i64 xa, .slice A' n' c']) from hHw.get 3 rfl).1
      refine wpIn_appT (.tmp 21) (.tmp 28) e4 N0 (.slice AT0 k cT0) k xT ?_ hrow B1 xa A' n' c' ?_ hbx hk hNw ?_
      · show ((putIf (s 23) 41 (.pointer (some ⟨J, 10, none⟩)) (putIf (s 19) 38 (.slice AM (k + 1) cM) (putIf (s 18) 37 (.slice (some ⟨B3, 0, none⟩) 1 1) (((putIf (s 12) 31 (.slice AM0 k cM0) ((a0).put (some 21) (.slice AT0 k cT0)))).put (some 28) (.slice (some ⟨B1, 0, none⟩) 1 1)))))).eval (.tmp 21) = _
        rw [putIf_ne (by decide), putIf_ne (by decide), putIf_ne (by decide), put_ne (by decide), putIf_ne (by decide), put_eq (by omega)]
      · show ((putIf (s 23) 41 (.pointer (some ⟨J, 10, none⟩)) (putIf (s 19) 38 (.slice AM (k + 1) cM) (putIf (s 18) 37 (.slice (some ⟨B3, 0, none⟩) 1 1) (((putIf (s 12) 31 (.slice AM0 k cM0) ((a0).put (some 21) (.slice AT0 k cT0)))).put (some 28) (.slice (some ⟨B1, 0, none⟩) 1 1)))))).eval (.tmp 28) = _
        rw [putIf_ne (by decide), putIf_ne (by decide), putIf_ne (by decide), put_eq (by rw [putIf_size, put_size]; omega)]
      intro A'' c'' w' h2 h3 h4
      have hB' : Below N0 w0 w' := hB.grown h3 hNw (fun j hj => (hrow.lt j hj).1)
      have hTin : Thing.In w' N0 (.row (.slice A'' (k + 1) c'') 78 2 (k + 1) (xT ++ [Value.int .i64 xa, Value.slice A' n' c'])) := h2
      have hH' := hHw.change 1 (T := .row (.slice AT0 k cT0) 78 2 k xT) rfl h3 (fun g h => h) hTin (fun g hg => by
        rcases h4 with h4 | h4
        · exact .inl (show Value.ownBlock (.slice AT0 k cT0) = some g from h4.symm.trans hg)
        · refine .inr ?_
          have e : Thing.blk (.row (.slice A'' (k + 1) c'') 78 2 (k + 1) (xT ++ [Value.int .i64 xa, Value.slice A' n' c'])) = some w.heap.size := h4
          rw [e] at hg
          injection hg with hg
          omega)
      rw [p4]
      clear hsj
      refine hK _ _ (hS _ hB') ⟨A'', AM, c'', cM, B1, B3, ?_, hB', ?_, ?_⟩
      · simp only [upd_eq, upd_ne (s := s) (j := 10) (k := 2) (by decide), upd_ne (s := s) (j := 10) (k := 12) (by decide), upd_ne (s := s) (j := 10) (k := 9) (by decide), upd_ne (s := s) (j := 10) (k := 18) (by decide), upd_ne (s := s) (j := 10) (k := 19) (by decide), upd_ne (s := s) (j := 10) (k := 20) (by decide), upd_ne (s := s) (j := 10) (k := 21) (by decide), upd_ne (s := s) (j := 10) (k := 22) (by decide), upd_ne (s := s) (j := 10) (k := 23) (by decide), upd_ne (s := s) (j := 10) (k := 24) (by decide), s20, s21, s22, s9, s2]
        show ((putIf (s 23) 41 (.pointer (some ⟨J, 10, none⟩)) (putIf (s 19) 38 (.slice AM (k + 1) cM) (putIf (s 18) 37 (.slice (some ⟨B3, 0, none⟩) 1 1) (((putIf (s 12) 31 (.slice AM0 k cM0) ((a0).put (some 21) (.slice AT0 k cT0)))).put (some 28) (.slice (some ⟨B1, 0, none⟩) 1 1)))))).put (some 29) _ = (putIf (s 23) 41 (.pointer (some ⟨J, 10, none⟩)) (putIf (s 19) 38 (.slice AM (k + 1) cM) (putIf (s 18) 37 (.slice (some ⟨B3, 0, none⟩) 1 1) (((((putIf (s 12) 31 (.slice AM0 k cM0) ((a0).put (some 21) (.slice AT0 k cT0)))).put (some 28) (.slice (some ⟨B1, 0, none⟩) 1 1))).put (some 29) (.slice A'' (k + 1) c'')))))
        rw [putIf_put (by decide), putIf_put (by decide), putIf_put (by decide)]
      · simp only [upd_eq, upd_ne (s := s) (j := 10) (k := 2) (by decide), upd_ne (s := s) (j := 10) (k := 12) (by decide), upd_ne (s := s) (j := 10) (k := 9) (by decide), upd_ne (s := s) (j := 10) (k := 18) (by decide), upd_ne (s := s) (j := 10) (k := 19) (by decide), upd_ne (s := s) (j := 10) (k := 20) (by decide), upd_ne (s := s) (j := 10) (k := 21) (by decide), upd_ne (s := s) (j := 10) (k := 22) (by decide), upd_ne (s := s) (j := 10) (k := 23) (by decide), upd_ne (s := s) (j := 10) (k := 24) (by decide), s20, s21, s22, s9, s2]
        refine ⟨?_, ?_, ?_, ?_, ?_, ?_, ?_⟩ <;> first | exact fun h => (by simp at h) | exact h10 | exact h19 | exact h20 | exact h21 | exact h22 | exact h23 | exact h24 | exact fun _ => trivial | exact fun _ => ⟨trivial, trivial⟩ | (simp; done) | (intro h; have g10 := h10; have g19 := h19; have g20 := h20; have g21 := h21; have g22 := h22; have g23 := h23; have g24 := h24; simp_all; done)
      · simpa [upd_eq, upd_ne (s := s) (j := 10) (k := 2) (by decide), upd_ne (s := s) (j := 10) (k := 12) (by decide), upd_ne (s := s) (j := 10) (k := 9) (by decide), upd_ne (s := s) (j := 10) (k := 18) (by decide), upd_ne (s := s) (j := 10) (k := 19) (by decide), upd_ne (s := s) (j := 10) (k := 20) (by decide), upd_ne (s := s) (j := 10) (k := 21) (by decide), upd_ne (s := s) (j := 10) (k := 22) (by decide), upd_ne (s := s) (j := 10) (k := 23) (by decide), upd_ne (s := s) (j := 10) (k := 24) (by decide), boxIf, rowIf, s20, s21, s22, s9, s2] using hH'
    · -- the slice of one map
      rw [g5] at ho
      cases ho
      have s19 := n19 (.inl hsj)
      have s24 := n24 (.inl s19)
      have s18 := hsj
      simp only [s24, s19, s18] at hbJ hHw ⊢
      refine wpIn_buildM (.tmp 36) e5 bk ?_ (hK _ _ (hS _ (hB.alloc hNw _)) ?_)
      · show ((putIf (s 23) 41 (.pointer (some ⟨J, 10, none⟩)) (putIf (s 21) 40 (.pointer (some ⟨J, 9, none⟩)) (putIf (s 20) 39 (.pointer (some ⟨J, 0, none⟩)) (putIf (s 10) 29 (.slice AT (k + 1) cT) (putIf (s 9) 28 (.slice (some ⟨B1, 0, none⟩) 1 1) (putIf (s 12) 31 (.slice AM0 k cM0) (putIf (s 2) 21 (.slice AT0 k cT0) a0)))))))).eval (.tmp 36) = _
        rw [putIf_ne (by decide), putIf_ne (by decide), putIf_ne (by decide), putIf_ne (by decide), putIf_ne (by decide), putIf_ne (by decide), putIf_ne (by decide)]
        exact hx5
      rw [p5]
      clear hsj
      have hfr := hHw.fresh 4 (by simp [boxIf]) (w' := w.alloc (.cells #[.map (some bk)] 125)) (n := w.heap.size) ((Below.refl _ _).alloc (Nat.le_refl _) _) (Nat.le_refl _) (T' := .box w.heap.size 125 #[.map (some bk)]) ⟨BoxS.new w _ _, Nat.le_refl _⟩ hNw
      refine ⟨AT, AM, cT, cM, B1, w.heap.size, ?_, hB.alloc hNw _, ?_, ?_⟩
      · simp only [upd_eq, upd_ne (s := s) (j := 18) (k := 2) (by decide), upd_ne (s := s) (j := 18) (k := 12) (by decide), upd_ne (s := s) (j := 18) (k := 9) (by decide), upd_ne (s := s) (j := 18) (k := 10) (by decide), upd_ne (s := s) (j := 18) (k := 19) (by decide), upd_ne (s := s) (j := 18) (k := 20) (by decide), upd_ne (s := s) (j := 18) (k := 21) (by decide), upd_ne (s := s) (j := 18) (k := 22) (by decide), upd_ne (s := s) (j := 18) (k := 23) (by decide), upd_ne (s := s) (j := 18) (k := 24) (by decide), s19, s24]
        show ((putIf (s 23) 41 (.pointer (some ⟨J, 10, none⟩)) (putIf (s 21) 40 (.pointer (some ⟨J, 9, none⟩)) (putIf (s 20) 39 (.pointer (some ⟨J, 0, none⟩)) (putIf (s 10) 29 (.slice AT (k + 1) cT) (putIf (s 9) 28 (.slice (some ⟨B1, 0, none⟩) 1 1) (putIf (s 12) 31 (.slice AM0 k cM0) (putIf (s 2) 21 (.slice AT0 k cT0) a0)))))))).put (some 37) _ = (putIf (s 23) 41 (.pointer (some ⟨J, 10, none⟩)) (putIf (s 21) 40 (.pointer (some ⟨J, 9, none⟩)) (putIf (s 20) 39 (.pointer (some ⟨J, 0, none⟩)) (((putIf (s 10) 29 (.slice AT (k + 1) cT) (putIf (s 9) 28 (.slice (some ⟨B1, 0, none⟩) 1 1) (putIf (s 12) 31 (.slice AM0 k cM0) (putIf (s 2) 21 (.slice AT0 k cT0) a0))))).put (some 37) (.slice (some ⟨w.heap.size, 0, none⟩) 1 1)))))
        rw [putIf_put (by decide), putIf_put (by decide), putIf_put (by decide)]
      · simp only [upd_eq, upd_ne (s := s) (j := 18) (k := 2) (by decide), upd_ne (s := s) (j := 18) (k := 12) (by decide), upd_ne (s := s) (j := 18) (k := 9) (by decide), upd_ne (s := s) (j := 18) (k := 10) (by decide), upd_ne (s := s) (j := 18) (k := 19) (by decide), upd_ne (s := s) (j := 18) (k := 20) (by decide), upd_ne (s := s) (j := 18) (k := 21) (by decide), upd_ne (s := s) (j := 18) (k := 22) (by decide), upd_ne (s := s) (j := 18) (k := 23) (by decide), upd_ne (s := s) (j := 18) (k := 24) (by decide), s19, s24]
        refine ⟨?_, ?_, ?_, ?_, ?_, ?_, ?_⟩ <;> first | exact fun h => (by simp at h) | exact h10 | exact h19 | exact h20 | exact h21 | exact h22 | exact h23 | exact h24 | exact fun _ => trivial | exact fun _ => ⟨trivial, trivial⟩ | (simp; done) | (intro h; have g10 := h10; have g19 := h19; have g20 := h20; have g21 := h21; have g22 := h22; have g23 := h23; have g24 := h24; simp_all; done)
      · simpa [upd_eq, upd_ne (s := s) (j := 18) (k := 2) (by decide), upd_ne (s := s) (j := 18) (k := 12) (by decide), upd_ne (s := s) (j := 18) (k := 9) (by decide), upd_ne (s := s) (j := 18) (k := 10) (by decide), upd_ne (s := s) (j := 18) (k := 19) (by decide), upd_ne (s := s) (j := 18) (k := 20) (by decide), upd_ne (s := s) (j := 18) (k := 21) (by decide), upd_ne (s := s) (j := 18) (k := 22) (by decide), upd_ne (s := s) (j := 18) (k := 23) (by decide), upd_ne (s := s) (j := 18) (k := 24) (by decide), boxIf, rowIf, s19, s24] using hfr
    · -- one more map
      rw [g6] at ho
      cases ho
      have s18 : s 18 = true := hdep 18 (by simp)
      have s12 : s 12 = true := hdep 12 (by simp)
      have s24 := n24 (.inl hsj)
      have s19 := hsj
      simp only [s24, s18, s12, s19] at hbJ hHw ⊢
      have hrow : w.ownsRow N0 125 1 (.slice AM0 k cM0) k xM := hHw.get 2 rfl
      have hbx : BoxS w B3 125 #[.map (some bk)] := (show Thing.In w N0 (.box B3 125 #[.map (some bk)]) from hHw.get 4 rfl).1
      refine wpIn_appM (.tmp 31) (.tmp 37) e6 N0 (.slice AM0 k cM0) k xM ?_ hrow B3 bk ?_ hbx hk hNw ?_
      · show ((putIf (s 23) 41 (.pointer (some ⟨J, 10, none⟩)) (putIf (s 21) 40 (.pointer (some ⟨J, 9, none⟩)) (putIf (s 20) 39 (.pointer (some ⟨J, 0, none⟩)) (((putIf (s 10) 29 (.slice AT (k + 1) cT) (putIf (s 9) 28 (.slice (some ⟨B1, 0, none⟩) 1 1) (((putIf (s 2) 21 (.slice AT0 k cT0) a0)).put (some 31) (.slice AM0 k cM0))))).put (some 37) (.slice (some ⟨B3, 0, none⟩) 1 1)))))).eval (.tmp 31) = _
        rw [putIf_ne (by decide), putIf_ne (by decide), putIf_ne (by decide), put_ne (by decide), putIf_ne (by decide), putIf_ne (by decide), put_eq (by rw [putIf_size]; omega)]
      · show ((putIf (s 23) 41 (.pointer (some ⟨J, 10, none⟩)) (putIf (s 21) 40 (.pointer (some ⟨J, 9, none⟩)) (putIf (s 20) 39 (.pointer (some ⟨J, 0, none⟩)) (((putIf (s 10) 29 (.slice AT (k + 1) cT) (putIf (s 9) 28 (.slice (some ⟨B1, 0, none⟩) 1 1) (((putIf (s 2) 21 (.slice AT0 k cT0) a0)).put (some 31) (.slice AM0 k cM0))))).put (some 37) (.slice (some ⟨B3, 0, none⟩) 1 1)))))).eval (.tmp 37) = _
        rw [putIf_ne (by decide), putIf_ne (by decide), putIf_ne (by decide), put_eq (by rw [putIf_size, putIf_size, put_size, putIf_size]; omega)]
      intro A'' c'' w' h2 h3 h4
      have hB' : Below N0 w0 w' := hB.grown h3 hNw (fun j hj => (hrow.lt j hj).1)
      have hTin : Thing.In w' N0 (.row (.slice A'' (k + 1) c'') 125 1 (k + 1) (xM ++ [Value.map (some bk)])) := h2
      have hH' := hHw.change 2 (T := .row (.slice AM0 k cM0) 125 1 k xM) rfl h3 (fun g h => h) hTin (fun g hg => by
        rcases h4 with h4 | h4
        · exact .inl (show Value.ownBlock (.slice AM0 k cM0) = some g from h4.symm.trans hg)
        · refine .inr ?_
          have e : Thing.blk (.row (.slice A'' (k + 1) c'') 125 1 (k + 1) (xM ++ [Value.map (some bk)])) = some w.heap.size := h4
          rw [e] at hg
          injection hg with hg
          omega)
      rw [p6]
      clear hsj
      refine hK _ _ (hS _ hB') ⟨AT, A'', cT, c'', B1, B3, ?_, hB', ?_, ?_⟩
      · simp only [upd_eq, upd_ne (s := s) (j := 19) (k := 2) (by decide), upd_ne (s := s) (j := 19) (k := 12) (by decide), upd_ne (s := s) (j := 19) (k := 9) (by decide), upd_ne (s := s) (j := 19) (k := 10) (by decide), upd_ne (s := s) (j := 19) (k := 18) (by decide), upd_ne (s := s) (j := 19) (k := 20) (by decide), upd_ne (s := s) (j := 19) (k := 21) (by decide), upd_ne (s := s) (j := 19) (k := 22) (by decide), upd_ne (s := s) (j := 19) (k := 23) (by decide), upd_ne (s := s) (j := 19) (k := 24) (by decide), s24, s18, s12]
        show ((putIf (s 23) 41 (.pointer (some ⟨J, 10, none⟩)) (putIf (s 21) 40 (.pointer (some ⟨J, 9, none⟩)) (putIf (s 20) 39 (.pointer (some ⟨J, 0, none⟩)) (((putIf (s 10) 29 (.slice AT (k + 1) cT) (putIf (s 9) 28 (.slice (some ⟨B1, 0, none⟩) 1 1) (((putIf (s 2) 21 (.slice AT0 k cT0) a0)).put (some 31) (.slice AM0 k cM0))))).put (some 37) (.slice (some ⟨B3, 0, none⟩) 1 1)))))).put (some 38) _ = (putIf (s 23) 41 (.pointer (some ⟨J, 10, none⟩)) (putIf (s 21) 40 (.pointer (some ⟨J, 9, none⟩)) (putIf (s 20) 39 (.pointer (some ⟨J, 0, none⟩)) (((((putIf (s 10) 29 (.slice AT (k + 1) cT) (putIf (s 9) 28 (.slice (some ⟨B1, 0, none⟩) 1 1) (((putIf (s 2) 21 (.slice AT0 k cT0) a0)).put (some 31) (.slice AM0 k cM0))))).put (some 37) (.slice (some ⟨B3, 0, none⟩) 1 1))).put (some 38) (.slice A'' (k + 1) c'')))))
        rw [putIf_put (by decide), putIf_put (by decide), putIf_put (by decide)]
      · simp only [upd_eq, upd_ne (s := s) (j := 19) (k := 2) (by decide), upd_ne (s := s) (j := 19) (k := 12) (by decide), upd_ne (s := s) (j := 19) (k := 9) (by decide), upd_ne (s := s) (j := 19) (k := 10) (by decide), upd_ne (s := s) (j := 19) (k := 18) (by decide), upd_ne (s := s) (j := 19) (k := 20) (by decide), upd_ne (s := s) (j := 19) (k := 21) (by decide), upd_ne (s := s) (j := 19) (k := 22) (by decide), upd_ne (s := s) (j := 19) (k := 23) (by decide), upd_ne (s := s) (j := 19) (k := 24) (by decide), s24, s18, s12]
        refine ⟨?_, ?_, ?_, ?_, ?_, ?_, ?_⟩ <;> first | exact fun h => (by simp at h) | exact h10 | exact h19 | exact h20 | exact h21 | exact h22 | exact h23 | exact h24 | exact fun _ => trivial | exact fun _ => ⟨trivial, trivial⟩ | (simp; done) | (intro h; have g10 := h10; have g19 := h19; have g20 := h20; have g21 := h21; have g22 := h22; have g23 := h23; have g24 := h24; simp_all; done)
      · simpa [upd_eq, upd_ne (s := s) (j := 19) (k := 2) (by decide), upd_ne (s := s) (j := 19) (k := 12) (by decide), upd_ne (s := s) (j := 19) (k := 9) (by decide), upd_ne (s := s) (j := 19) (k := 10) (by decide), upd_ne (s := s) (j := 19) (k := 18) (by decide), upd_ne (s := s) (j := 19) (k := 20) (by decide), upd_ne (s := s) (j := 19) (k := 21) (by decide), upd_ne (s := s) (j := 19) (k := 22) (by decide), upd_ne (s := s) (j := 19) (k := 23) (by decide), upd_ne (s := s) (j := 19) (k := 24) (by decide), boxIf, rowIf, s24, s18, s12] using hH'
    · -- the trial of the file
      rw [g9] at ho
      cases ho
      have s10 : s 10 = true := hdep 10 (by simp)
      have s21 := n21 hsj
      have s22 := n22 s21
      have s20 := hsj
      simp only [s22, s21, s10, s20] at hbJ hHw ⊢
      refine wpIn_fld0 e9 J ?_ ?_
      · show ((putIf (s 23) 41 (.pointer (some ⟨J, 10, none⟩)) (putIf (s 19) 38 (.slice AM (k + 1) cM) (putIf (s 18) 37 (.slice (some ⟨B3, 0, none⟩) 1 1) (((putIf (s 9) 28 (.slice (some ⟨B1, 0, none⟩) 1 1) (putIf (s 12) 31 (.slice AM0 k cM0) (putIf (s 2) 21 (.slice AT0 k cT0) a0)))).put (some 29) (.slice AT (k + 1) cT)))))).eval (.tmp 5) = _
        rw [putIf_ne (by decide), putIf_ne (by decide), putIf_ne (by decide), put_ne (by decide), putIf_ne (by decide), putIf_ne (by decide), putIf_ne (by decide)]
        exact hx9
      rw [p9]
      clear hsj
      refine hK _ _ (hS _ hB) ⟨AT, AM, cT, cM, B1, B3, ?_, hB, ?_, ?_⟩
      · simp only [upd_eq, upd_ne (s := s) (j := 20) (k := 2) (by decide), upd_ne (s := s) (j := 20) (k := 12) (by decide), upd_ne (s := s) (j := 20) (k := 9) (by decide), upd_ne (s := s) (j := 20) (k := 10) (by decide), upd_ne (s := s) (j := 20) (k := 18) (by decide), upd_ne (s := s) (j := 20) (k := 19) (by decide), upd_ne (s := s) (j := 20) (k := 21) (by decide), upd_ne (s := s) (j := 20) (k := 22) (by decide), upd_ne (s := s) (j := 20) (k := 23) (by decide), upd_ne (s := s) (j := 20) (k := 24) (by decide), s21, s22, s10]
        show ((putIf (s 23) 41 (.pointer (some ⟨J, 10, none⟩)) (putIf (s 19) 38 (.slice AM (k + 1) cM) (putIf (s 18) 37 (.slice (some ⟨B3, 0, none⟩) 1 1) (((putIf (s 9) 28 (.slice (some ⟨B1, 0, none⟩) 1 1) (putIf (s 12) 31 (.slice AM0 k cM0) (putIf (s 2) 21 (.slice AT0 k cT0) a0)))).put (some 29) (.slice AT (k + 1) cT)))))).put (some 39) _ = (putIf (s 23) 41 (.pointer (some ⟨J, 10, none⟩)) (((putIf (s 19) 38 (.slice AM (k + 1) cM) (putIf (s 18) 37 (.slice (some ⟨B3, 0, none⟩) 1 1) (((putIf (s 9) 28 (.slice (some ⟨B1, 0, none⟩) 1 1) (putIf (s 12) 31 (.slice AM0 k cM0) (putIf (s 2) 21 (.slice AT0 k cT0) a0)))).put (some 29) (.slice AT (k + 1) cT))))).put (some 39) (.pointer (some ⟨J, 0, none⟩))))
        rw [putIf_put (by decide)]
      · simp only [upd_eq, upd_ne (s := s) (j := 20) (k := 2) (by decide), upd_ne (s := s) (j := 20) (k := 12) (by decide), upd_ne (s := s) (j := 20) (k := 9) (by decide), upd_ne (s := s) (j := 20) (k := 10) (by decide), upd_ne (s := s) (j := 20) (k := 18) (by decide), upd_ne (s := s) (j := 20) (k := 19) (by decide), upd_ne (s := s) (j := 20) (k := 21) (by decide), upd_ne (s := s) (j := 20) (k := 22) (by decide), upd_ne (s := s) (j := 20) (k := 23) (by decide), upd_ne (s := s) (j := 20) (k := 24) (by decide), s21, s22, s10]
        refine ⟨?_, ?_, ?_, ?_, ?_, ?_, ?_⟩ <;> first | exact fun h => (by simp at h) | exact h10 | exact h19 | exact h20 | exact h21 | exact h22 | exact h23 | exact h24 | exact fun _ => trivial | exact fun _ => ⟨trivial, trivial⟩ | (simp; done) | (intro h; have g10 := h10; have g19 := h19; have g20 := h20; have g21 := h21; have g22 := h22; have g23 := h23; have g24 := h24; simp_all; done)
      · simpa [upd_eq, upd_ne (s := s) (j := 20) (k := 2) (by decide), upd_ne (s := s) (j := 20) (k := 12) (by decide), upd_ne (s := s) (j := 20) (k := 9) (by decide), upd_ne (s := s) (j := 20) (k := 10) (by decide), upd_ne (s := s) (j := 20) (k := 18) (by decide), upd_ne (s := s) (j := 20) (k := 19) (by decide), upd_ne (s := s) (j := 20) (k := 21) (by decide), upd_ne (s := s) (j := 20) (k := 22) (by decide), upd_ne (s := s) (j := 20) (k := 23) (by decide), upd_ne (s := s) (j := 20) (k := 24) (by decide), boxIf, rowIf, s21, s22, s10] using hHw
    · -- where its tests lie
      rw [g10] at ho
      cases ho
      have s20 : s 20 = true := hdep 20 (by simp)
      have s22 := n22 hsj
      have s21 := hsj
      simp only [s22, s20, s21] at hbJ hHw ⊢
      refine wpIn_fld1 e10 J ?_ ?_
      · show ((putIf (s 23) 41 (.pointer (some ⟨J, 10, none⟩)) (((putIf (s 19) 38 (.slice AM (k + 1) cM) (putIf (s 18) 37 (.slice (some ⟨B3, 0, none⟩) 1 1) (putIf (s 10) 29 (.slice AT (k + 1) cT) (putIf (s 9) 28 (.slice (some ⟨B1, 0, none⟩) 1 1) (putIf (s 12) 31 (.slice AM0 k cM0) (putIf (s 2) 21 (.slice AT0 k cT0) a0))))))).put (some 39) (.pointer (some ⟨J, 0, none⟩))))).eval (.tmp 39) = _
        rw [putIf_ne (by decide), put_eq (by rw [putIf_size, putIf_size, putIf_size, putIf_size, putIf_size, putIf_size]; omega)]
      rw [p10]
      clear hsj
      refine hK _ _ (hS _ hB) ⟨AT, AM, cT, cM, B1, B3, ?_, hB, ?_, ?_⟩
      · simp only [upd_eq, upd_ne (s := s) (j := 21) (k := 2) (by decide), upd_ne (s := s) (j := 21) (k := 12) (by decide), upd_ne (s := s) (j := 21) (k := 9) (by decide), upd_ne (s := s) (j := 21) (k := 10) (by decide), upd_ne (s := s) (j := 21) (k := 18) (by decide), upd_ne (s := s) (j := 21) (k := 19) (by decide), upd_ne (s := s) (j := 21) (k := 20) (by decide), upd_ne (s := s) (j := 21) (k := 22) (by decide), upd_ne (s := s) (j := 21) (k := 23) (by decide), upd_ne (s := s) (j := 21) (k := 24) (by decide), s22, s20]
        show ((putIf (s 23) 41 (.pointer (some ⟨J, 10, none⟩)) (((putIf (s 19) 38 (.slice AM (k + 1) cM) (putIf (s 18) 37 (.slice (some ⟨B3, 0, none⟩) 1 1) (putIf (s 10) 29 (.slice AT (k + 1) cT) (putIf (s 9) 28 (.slice (some ⟨B1, 0, none⟩) 1 1) (putIf (s 12) 31 (.slice AM0 k cM0) (putIf (s 2) 21 (.slice AT0 k cT0) a0))))))).put (some 39) (.pointer (some ⟨J, 0, none⟩))))).put (some 40) _ = (putIf (s 23) 41 (.pointer (some ⟨J, 10, none⟩)) (((((putIf (s 19) 38 (.slice AM (k + 1) cM) (putIf (s 18) 37 (.slice (some ⟨B3, 0, none⟩) 1 1) (putIf (s 10) 29 (.slice AT (k + 1) cT) (putIf (s 9) 28 (.slice (some ⟨B1, 0, none⟩) 1 1) (putIf (s 12) 31 (.slice AM0 k cM0) (putIf (s 2) 21 (.slice AT0 k cT0) a0))))))).put (some 39) (.pointer (some ⟨J, 0, none⟩)))).put (some 40) (.pointer (some ⟨J, 9, none⟩))))
        rw [putIf_put (by decide)]
      · simp only [upd_eq, upd_ne (s := s) (j := 21) (k := 2) (by decide), upd_ne (s := s) (j := 21) (k := 12) (by decide), upd_ne (s := s) (j := 21) (k := 9) (by decide), upd_ne (s := s) (j := 21) (k := 10) (by decide), upd_ne (s := s) (j := 21) (k := 18) (by decide), upd_ne (s := s) (j := 21) (k := 19) (by decide), upd_ne (s := s) (j := 21) (k := 20) (by decide), upd_ne (s := s) (j := 21) (k := 22) (by decide), upd_ne (s := s) (j := 21) (k := 23) (by decide), upd_ne (s := s) (j := 21) (k := 24) (by decide), s22, s20]
        refine ⟨?_, ?_, ?_, ?_, ?_, ?_, ?_⟩ <;> first | exact fun h => (by simp at h) | exact h10 | exact h19 | exact h20 | exact h21 | exact h22 | exact h23 | exact h24 | exact fun _ => trivial | exact fun _ => ⟨trivial, trivial⟩ | (simp; done) | (intro h; have g10 := h10; have g19 := h19; have g20 := h20; have g21 := h21; have g22 := h22; have g23 := h23; have g24 := h24; simp_all; done)
      · simpa [upd_eq, upd_ne (s := s) (j := 21) (k := 2) (by decide), upd_ne (s := s) (j := 21) (k := 12) (by decide), upd_ne (s := s) (j := 21) (k := 9) (by decide), upd_ne (s := s) (j := 21) (k := 10) (by decide), upd_ne (s := s) (j := 21) (k := 18) (by decide), upd_ne (s := s) (j := 21) (k := 19) (by decide), upd_ne (s := s) (j := 21) (k := 20) (by decide), upd_ne (s := s) (j := 21) (k := 22) (by decide), upd_ne (s := s) (j := 21) (k := 23) (by decide), upd_ne (s := s) (j := 21) (k := 24) (by decide), boxIf, rowIf, s22, s20] using hHw
    · -- the tests are stored
      rw [g7] at ho
      cases ho
      have s21 : s 21 = true := hdep 21 (by simp)
      have s20 := h21 s21
      have s10 := h20 s20
      have s22 := hsj
      simp only [s21, s20, s10, s22] at hbJ hHw ⊢
      have hT := hHw.change 0 rfl (grownBy_set w J 9 (.slice AT (k + 1) cT)) (fun g h => h) (T' := .box J tf (vf (.slice AT (k + 1) cT) (if s 24 then .slice AM (k + 1) cM else .slice AM0 k cM0))) ⟨by have := hbJ.put9 9 (.slice AT (k + 1) cT); rw [hs9] at this; exact this, hJl⟩ (fun g h => .inl h)
      have hB' : Below N0 w0 (w.setCell ⟨J, 9, none⟩ (.slice AT (k + 1) cT)) := hB.setCell hJl _
      clear hsj
      refine wpIn_storeT 40 29 e7 p7 J 9 AT (k + 1) cT _ ?_ ?_ (hbJ.cell 9 (hv9 _ _)) (hbJ.frozen 9) (hK _ _ (hS _ hB') ⟨AT, AM, cT, cM, B1, B3, ?_, hB', ?_, ?_⟩)
      · show ((putIf (s 23) 41 (.pointer (some ⟨J, 10, none⟩)) (((((putIf (s 19) 38 (.slice AM (k + 1) cM) (putIf (s 18) 37 (.slice (some ⟨B3, 0, none⟩) 1 1) (((putIf (s 9) 28 (.slice (some ⟨B1, 0, none⟩) 1 1) (putIf (s 12) 31 (.slice AM0 k cM0) (putIf (s 2) 21 (.slice AT0 k cT0) a0)))).put (some 29) (.slice AT (k + 1) cT))))).put (some 39) (.pointer (some ⟨J, 0, none⟩)))).put (some 40) (.pointer (some ⟨J, 9, none⟩))))).eval (.tmp 40) = _
        rw [putIf_ne (by decide), put_eq (by rw [put_size, putIf_size, putIf_size, put_size, putIf_size, putIf_size, putIf_size]; omega)]
      · show ((putIf (s 23) 41 (.pointer (some ⟨J, 10, none⟩)) (((((putIf (s 19) 38 (.slice AM (k + 1) cM) (putIf (s 18) 37 (.slice (some ⟨B3, 0, none⟩) 1 1) (((putIf (s 9) 28 (.slice (some ⟨B1, 0, none⟩) 1 1) (putIf (s 12) 31 (.slice AM0 k cM0) (putIf (s 2) 21 (.slice AT0 k cT0) a0)))).put (some 29) (.slice AT (k + 1) cT))))).put (some 39) (.pointer (some ⟨J, 0, none⟩)))).put (some 40) (.pointer (some ⟨J, 9, none⟩))))).eval (.tmp 29) = _
        rw [putIf_ne (by decide), put_ne (by decide), put_ne (by decide), putIf_ne (by decide), putIf_ne (by decide), put_eq (by rw [putIf_size, putIf_size, putIf_size]; omega)]
      · simp only [upd_eq, upd_ne (s := s) (j := 22) (k := 2) (by decide), upd_ne (s := s) (j := 22) (k := 12) (by decide), upd_ne (s := s) (j := 22) (k := 9) (by decide), upd_ne (s := s) (j := 22) (k := 10) (by decide), upd_ne (s := s) (j := 22) (k := 18) (by decide), upd_ne (s := s) (j := 22) (k := 19) (by decide), upd_ne (s := s) (j := 22) (k := 20) (by decide), upd_ne (s := s) (j := 22) (k := 21) (by decide), upd_ne (s := s) (j := 22) (k := 23) (by decide), upd_ne (s := s) (j := 22) (k := 24) (by decide), s21, s20, s10]
        try rfl
      · simp only [upd_eq, upd_ne (s := s) (j := 22) (k := 2) (by decide), upd_ne (s := s) (j := 22) (k := 12) (by decide), upd_ne (s := s) (j := 22) (k := 9) (by decide), upd_ne (s := s) (j := 22) (k := 10) (by decide), upd_ne (s := s) (j := 22) (k := 18) (by decide), upd_ne (s := s) (j := 22) (k := 19) (by decide), upd_ne (s := s) (j := 22) (k := 20) (by decide), upd_ne (s := s) (j := 22) (k := 21) (by decide), upd_ne (s := s) (j := 22) (k := 23) (by decide), upd_ne (s := s) (j := 22) (k := 24) (by decide), s21, s20, s10]
        refine ⟨?_, ?_, ?_, ?_, ?_, ?_, ?_⟩ <;> first | exact fun h => (by simp at h) | exact h10 | exact h19 | exact h20 | exact h21 | exact h22 | exact h23 | exact h24 | exact fun _ => trivial | exact fun _ => ⟨trivial, trivial⟩ | (simp; done) | (intro h; have g10 := h10; have g19 := h19; have g20 := h20; have g21 := h21; have g22 := h22; have g23 := h23; have g24 := h24; simp_all; done)
      · simpa [upd_eq, upd_ne (s := s) (j := 22) (k := 2) (by decide), upd_ne (s := s) (j := 22) (k := 12) (by decide), upd_ne (s := s) (j := 22) (k := 9) (by decide), upd_ne (s := s) (j := 22) (k := 10) (by decide), upd_ne (s := s) (j := 22) (k := 18) (by decide), upd_ne (s := s) (j := 22) (k := 19) (by decide), upd_ne (s := s) (j := 22) (k := 20) (by decide), upd_ne (s := s) (j := 22) (k := 21) (by decide), upd_ne (s := s) (j := 22) (k := 23) (by decide), upd_ne (s := s) (j := 22) (k := 24) (by decide), s21, s20, s10] using hT
    · -- where its maps lie
      rw [g11] at ho
      cases ho
      have s10 : s 10 = true := hdep 10 (by simp)
      have s12 : s 12 = true := hdep 12 (by simp)
      have s24 := n24 (.inr hsj)
      have s23 := hsj
      simp only [s24, s10, s12, s23] at hbJ hHw ⊢
      refine wpIn_fld2 e11 J ?_ ?_
      · show ((putIf (s 21) 40 (.pointer (some ⟨J, 9, none⟩)) (putIf (s 20) 39 (.pointer (some ⟨J, 0, none⟩)) (putIf (s 19) 38 (.slice AM (k + 1) cM) (putIf (s 18) 37 (.slice (some ⟨B3, 0, none⟩) 1 1) (((putIf (s 9) 28 (.slice (some ⟨B1, 0, none⟩) 1 1) (((putIf (s 2) 21 (.slice AT0 k cT0) a0)).put (some 31) (.slice AM0 k cM0)))).put (some 29) (.slice AT (k + 1) cT))))))).eval (.tmp 5) = _
        rw [putIf_ne (by decide), putIf_ne (by decide), putIf_ne (by decide), putIf_ne (by decide), put_ne (by decide), putIf_ne (by decide), put_ne (by decide), putIf_ne (by decide)]
        exact hx9
      rw [p11]
      clear hsj
      refine hK _ _ (hS _ hB) ⟨AT, AM, cT, cM, B1, B3, ?_, hB, ?_, ?_⟩
      · simp only [upd_eq, upd_ne (s := s) (j := 23) (k := 2) (by decide), upd_ne (s := s) (j := 23) (k := 12) (by decide), upd_ne (s := s) (j := 23) (k := 9) (by decide), upd_ne (s := s) (j := 23) (k := 10) (by decide), upd_ne (s := s) (j := 23) (k := 18) (by decide), upd_ne (s := s) (j := 23) (k := 19) (by decide), upd_ne (s := s) (j := 23) (k := 20) (by decide), upd_ne (s := s) (j := 23) (k := 21) (by decide), upd_ne (s := s) (j := 23) (k := 22) (by decide), upd_ne (s := s) (j := 23) (k := 24) (by decide), s24, s10, s12]
        show ((putIf (s 21) 40 (.pointer (some ⟨J, 9, none⟩)) (putIf (s 20) 39 (.pointer (some ⟨J, 0, none⟩)) (putIf (s 19) 38 (.slice AM (k + 1) cM) (putIf (s 18) 37 (.slice (some ⟨B3, 0, none⟩) 1 1) (((putIf (s 9) 28 (.slice (some ⟨B1, 0, none⟩) 1 1) (((putIf (s 2) 21 (.slice AT0 k cT0) a0)).put (some 31) (.slice AM0 k cM0)))).put (some 29) (.slice AT (k + 1) cT))))))).put (some 41) _ = (((putIf (s 21) 40 (.pointer (some ⟨J, 9, none⟩)) (putIf (s 20) 39 (.pointer (some ⟨J, 0, none⟩)) (putIf (s 19) 38 (.slice AM (k + 1) cM) (putIf (s 18) 37 (.slice (some ⟨B3, 0, none⟩) 1 1) (((putIf (s 9) 28 (.slice (some ⟨B1, 0, none⟩) 1 1) (((putIf (s 2) 21 (.slice AT0 k cT0) a0)).put (some 31) (.slice AM0 k cM0)))).put (some 29) (.slice AT (k + 1) cT))))))).put (some 41) (.pointer (some ⟨J, 10, none⟩)))
        rfl
      · simp only [upd_eq, upd_ne (s := s) (j := 23) (k := 2) (by decide), upd_ne (s := s) (j := 23) (k := 12) (by decide), upd_ne (s := s) (j := 23) (k := 9) (by decide), upd_ne (s := s) (j := 23) (k := 10) (by decide), upd_ne (s := s) (j := 23) (k := 18) (by decide), upd_ne (s := s) (j := 23) (k := 19) (by decide), upd_ne (s := s) (j := 23) (k := 20) (by decide), upd_ne (s := s) (j := 23) (k := 21) (by decide), upd_ne (s := s) (j := 23) (k := 22) (by decide), upd_ne (s := s) (j := 23) (k := 24) (by decide), s24, s10, s12]
        refine ⟨?_, ?_, ?_, ?_, ?_, ?_, ?_⟩ <;> first | exact fun h => (by simp at h) | exact h10 | exact h19 | exact h20 | exact h21 | exact h22 | exact h23 | exact h24 | exact fun _ => trivial | exact fun _ => ⟨trivial, trivial⟩ | (simp; done) | (intro h; have g10 := h10; have g19 := h19; have g20 := h20; have g21 := h21; have g22 := h22; have g23 := h23; have g24 := h24; simp_all; done)
      · simpa [upd_eq, upd_ne (s := s) (j := 23) (k := 2) (by decide), upd_ne (s := s) (j := 23) (k := 12) (by decide), upd_ne (s := s) (j := 23) (k := 9) (by decide), upd_ne (s := s) (j := 23) (k := 10) (by decide), upd_ne (s := s) (j := 23) (k := 18) (by decide), upd_ne (s := s) (j := 23) (k := 19) (by decide), upd_ne (s := s) (j := 23) (k := 20) (by decide), upd_ne (s := s) (j := 23) (k := 21) (by decide), upd_ne (s := s) (j := 23) (k := 22) (by decide), upd_ne (s := s) (j := 23) (k := 24) (by decide), boxIf, rowIf, s24, s10, s12] using hHw
    · -- the maps are stored
      rw [g8] at ho
      cases ho
      have s19 : s 19 = true := hdep 19 (by simp)
      have s23 : s 23 = true := hdep 23 (by simp)
      have s24 := hsj
      simp only [s19, s23, s24] at hbJ hHw ⊢
      have hT := hHw.change 0 rfl (grownBy_set w J 10 (.slice AM (k + 1) cM)) (fun g h => h) (T' := .box J tf (vf (if s 22 then .slice AT (k + 1) cT else .slice AT0 k cT0) (.slice AM (k + 1) cM))) ⟨by have := hbJ.put9 10 (.slice AM (k + 1) cM); rw [hs10] at this; exact this, hJl⟩ (fun g h => .inl h)
      have hB' : Below N0 w0 (w.setCell ⟨J, 10, none⟩ (.slice AM (k + 1) cM)) := hB.setCell hJl _
      clear hsj
      refine wpIn_storeM 41 38 e8 p8 J 10 AM (k + 1) cM _ ?_ ?_ (hbJ.cell 10 (hv10 _ _)) (hbJ.frozen 10) (hK _ _ (hS _ hB') ⟨AT, AM, cT, cM, B1, B3, ?_, hB', ?_, ?_⟩)
      · show ((((putIf (s 21) 40 (.pointer (some ⟨J, 9, none⟩)) (putIf (s 20) 39 (.pointer (some ⟨J, 0, none⟩)) (((putIf (s 18) 37 (.slice (some ⟨B3, 0, none⟩) 1 1) (putIf (s 10) 29 (.slice AT (k + 1) cT) (putIf (s 9) 28 (.slice (some ⟨B1, 0, none⟩) 1 1) (putIf (s 12) 31 (.slice AM0 k cM0) (putIf (s 2) 21 (.slice AT0 k cT0) a0)))))).put (some 38) (.slice AM (k + 1) cM))))).put (some 41) (.pointer (some ⟨J, 10, none⟩)))).eval (.tmp 41) = _
        rw [put_eq (by rw [putIf_size, putIf_size, put_size, putIf_size, putIf_size, putIf_size, putIf_size, putIf_size]; omega)]
      · show ((((putIf (s 21) 40 (.pointer (some ⟨J, 9, none⟩)) (putIf (s 20) 39 (.pointer (some ⟨J, 0, none⟩)) (((putIf (s 18) 37 (.slice (some ⟨B3, 0, none⟩) 1 1) (putIf (s 10) 29 (.slice AT (k + 1) cT) (putIf (s 9) 28 (.slice (some ⟨B1, 0, none⟩) 1 1) (putIf (s 12) 31 (.slice AM0 k cM0) (putIf (s 2) 21 (.slice AT0 k cT0) a0)))))).put (some 38) (.slice AM (k + 1) cM))))).put (some 41) (.pointer (some ⟨J, 10, none⟩)))).eval (.tmp 38) = _
        rw [put_ne (by decide), putIf_ne (by decide), putIf_ne (by decide), put_eq (by rw [putIf_size, putIf_size, putIf_size, putIf_size, putIf_size]; omega)]
      · simp only [upd_eq, upd_ne (s := s) (j := 24) (k := 2) (by decide), upd_ne (s := s) (j := 24) (k := 12) (by decide), upd_ne (s := s) (j := 24) (k := 9) (by decide), upd_ne (s := s) (j := 24) (k := 10) (by decide), upd_ne (s := s) (j := 24) (k := 18) (by decide), upd_ne (s := s) (j := 24) (k := 19) (by decide), upd_ne (s := s) (j := 24) (k := 20) (by decide), upd_ne (s := s) (j := 24) (k := 21) (by decide), upd_ne (s := s) (j := 24) (k := 22) (by decide), upd_ne (s := s) (j := 24) (k := 23) (by decide), s19, s23]
        try rfl
      · simp only [upd_eq, upd_ne (s := s) (j := 24) (k := 2) (by decide), upd_ne (s := s) (j := 24) (k := 12) (by decide), upd_ne (s := s) (j := 24) (k := 9) (by decide), upd_ne (s := s) (j := 24) (k := 10) (by decide), upd_ne (s := s) (j := 24) (k := 18) (by decide), upd_ne (s := s) (j := 24) (k := 19) (by decide), upd_ne (s := s) (j := 24) (k := 20) (by decide), upd_ne (s := s) (j := 24) (k := 21) (by decide), upd_ne (s := s) (j := 24) (k := 22) (by decide), upd_ne (s := s) (j := 24) (k := 23) (by decide), s19, s23]
        refine ⟨?_, ?_, ?_, ?_, ?_, ?_, ?_⟩ <;> first | exact fun h => (by simp at h) | exact h10 | exact h19 | exact h20 | exact h21 | exact h22 | exact h23 | exact h24 | exact fun _ => trivial | exact fun _ => ⟨trivial, trivial⟩ | (simp; done) | (intro h; have g10 := h10; have g19 := h19; have g20 := h20; have g21 := h21; have g22 := h22; have g23 := h23; have g24 := h24; simp_all; done)
      · simpa [upd_eq, upd_ne (s := s) (j := 24) (k := 2) (by decide), upd_ne (s := s) (j := 24) (k := 12) (by decide), upd_ne (s := s) (j := 24) (k := 9) (by decide), upd_ne (s := s) (j := 24) (k := 10) (by decide), upd_ne (s := s) (j := 24) (k := 18) (by decide), upd_ne (s := s) (j := 24) (k := 19) (by decide), upd_ne (s := s) (j := 24) (k := 20) (by decide), upd_ne (s := s) (j := 24) (k := 21) (by decide), upd_ne (s := s) (j := 24) (k := 22) (by decide), upd_ne (s := s) (j := 24) (k := 23) (by decide), s19, s23] using hT
  · intro s a w hall hI
    obtain ⟨AT, AM, cT, cM, B1, B3, rfl, hB, _, hHw⟩ := hI
    have s2 := hall 2 (by simp)
    have s12 := hall 12 (by simp)
    have s9 := hall 9 (by simp)
    have s10 := hall 10 (by simp)
    have s18 := hall 18 (by simp)
    have s19 := hall 19 (by simp)
    have s20 := hall 20 (by simp)
    have s21 := hall 21 (by simp)
    have s22 := hall 22 (by simp)
    have s23 := hall 23 (by simp)
    have s24 := hall 24 (by simp)
    rw [s2, s12, s9, s10, s18, s19, s20, s21, s23]
    rw [s9, s10, s18, s19, s22, s24] at hHw
    exact hend _ _ AT cT AM cM _ _ w hB hHw
end
end Go.Proofs.YtkmacpkjobdffaaGreat
