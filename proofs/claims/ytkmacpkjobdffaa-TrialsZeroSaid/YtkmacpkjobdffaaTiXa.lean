/- Trials: two appends of one region, whatever the order. -/
import Derived.Test.YtkmacpkjobdffaaTiR
import Derived.Test.YtkmacpkjobdffaaAny
namespace Go.Proofs.Ytkmacpkjobdffaa
open Go.RowKit Go.Maps
theorem test_info : (Try.prog.info? 31).map (fun i => (i.zero, i.size, i.bytes)) = some (some (.agg #[.int .i64 0, .slice none 0 0]), 2, 32) := by kernel_rfl
theorem own_form2 {w : World} {B : Nat} {e : TypeId} {v : Value} {n : Nat} {xs : List Value} (h : w.ownsRow B e 2 v n xs) : ∃ A c, v = .slice A n c := by
  rcases h.2 with ⟨rfl, rfl⟩ | ⟨g, cap, cur, rfl, _⟩
  · exact ⟨none, 0, rfl⟩
  · exact ⟨some ⟨g, 0, none⟩, cap, rfl⟩
theorem put_ne {a : Act} {d t : Nat} (h : t ≠ d) (v : Value) : (a.put (some d) v).eval (.tmp t) = a.eval (.tmp t) := by
  show (a.tmps.setIfInBounds d v).getD t undef = a.tmps.getD t undef
  simp only [Array.getD_eq_getD_getElem?]
  rw [Array.getElem?_setIfInBounds_ne (fun e => h e.symm)]
theorem put_eq {a : Act} {d : Nat} (h : d < a.tmps.size) (v : Value) : (a.put (some d) v).eval (.tmp d) = v := by
  show (a.tmps.setIfInBounds d v).getD d undef = v
  simp only [Array.getD_eq_getD_getElem?]
  rw [Array.getElem?_setIfInBounds_self_of_lt h]
  rfl
theorem put_size (a : Act) (d : Nat) (v : Value) : (a.put (some d) v).tmps.size = a.tmps.size := Array.size_setIfInBounds ..
theorem put_comm {a : Act} {d e : Nat} (h : d ≠ e) (u v : Value) : (a.put (some d) u).put (some e) v = (a.put (some e) v).put (some d) u := by
  show ({ a with tmps := (a.tmps.setIfInBounds d u).setIfInBounds e v } : Act) = { a with tmps := (a.tmps.setIfInBounds e v).setIfInBounds d u }
  rw [Array.setIfInBounds_comm _ _ h]
/-- A slot that is filled once its operation has come. -/
def putIf (b : Bool) (d : Nat) (v : Value) (a : Act) : Act := if b then a.put (some d) v else a
theorem putIf_ne {a : Act} {d t : Nat} (h : t ≠ d) (b : Bool) (v : Value) : (putIf b d v a).eval (.tmp t) = a.eval (.tmp t) := by
  cases b
  · rfl
  · exact put_ne h v
theorem putIf_size (a : Act) (b : Bool) (d : Nat) (v : Value) : (putIf b d v a).tmps.size = a.tmps.size := by
  cases b
  · rfl
  · exact put_size a d v
theorem putIf_put {a : Act} {d e : Nat} (h : d ≠ e) (b : Bool) (u v : Value) : (putIf b d u a).put (some e) v = putIf b d u (a.put (some e) v) := by
  cases b
  · rfl
  · exact put_comm h u v
theorem run_buildT (xa : Int) (A' : Option Addr) (n' c' : Nat) (W : World) : (Instr.buildSlice 26 1 #[(0, .agg #[.int .i64 xa, .slice A' n' c'])]).run Try.prog W = .ok (.slice (some ⟨W.heap.size, 0, none⟩) 1 1) (W.alloc (.cells #[.int .i64 xa, .slice A' n' c'] 31)) := by kernel_rfl
theorem run_buildM (bk : Nat) (W : World) : (Instr.buildSlice 71 1 #[(0, .map (some bk))]).run Try.prog W = .ok (.slice (some ⟨W.heap.size, 0, none⟩) 1 1) (W.alloc (.cells #[.map (some bk)] 105)) := by kernel_rfl
section
variable {F : Fence} {n : Nat} {o : Oper} {a : Act} {K : Act → World → Prop} {Q : Exit → Act → World → Prop} {wr : World}
theorem wpIn_buildT (x : Operand) (ho : o.op = .buildSlice 26 1 #[(0, x)]) (xa : Int) (A' : Option Addr) (n' c' : Nat) (hx : a.eval x = .agg #[.int .i64 xa, .slice A' n' c'])
    (h : K (a.put o.dst (.slice (some ⟨wr.heap.size, 0, none⟩) 1 1)) (wr.alloc (.cells #[.int .i64 xa, .slice A' n' c'] 31))) : o.wpIn F n Try.prog a wr K Q := by
  refine ⟨fun f hf => ?_, ?_⟩
  · unfold Oper.about at hf
    rw [ho] at hf
    cases hf
  · rw [Oper.semAt_eq _ _ _ (fun c hc => by rw [ho] at hc; cases hc)]
    unfold execOp
    simp only [ho, List.map_toArray, List.map_cons, List.map_nil, hx, Sem.run_bind, run_buildT, Result.andThen_ok, Sem.run_pure]
    exact h
theorem wpIn_buildM (x : Operand) (ho : o.op = .buildSlice 71 1 #[(0, x)]) (bk : Nat) (hx : a.eval x = .map (some bk))
    (h : K (a.put o.dst (.slice (some ⟨wr.heap.size, 0, none⟩) 1 1)) (wr.alloc (.cells #[.map (some bk)] 105))) : o.wpIn F n Try.prog a wr K Q := by
  refine ⟨fun f hf => ?_, ?_⟩
  · unfold Oper.about at hf
    rw [ho] at hf
    cases hf
  · rw [Oper.semAt_eq _ _ _ (fun c hc => by rw [ho] at hc; cases hc)]
    unfold execOp
    simp only [ho, List.map_toArray, List.map_cons, List.map_nil, hx, Sem.run_bind, run_buildM, Result.andThen_ok, Sem.run_pure]
    exact h
theorem readsT {w : World} {B : Nat} {xa : Int} {A' : Option Addr} {n' c' : Nat} (h : BoxS w B 31 #[.int .i64 xa, .slice A' n' c']) : Reads w w.heap.size 2 (some ⟨B, 0, none⟩) 1 [.int .i64 xa, .slice A' n' c'] :=
  ⟨rfl, fun _ => ⟨_, rfl, h.lt, fun j u hu => by
    rcases j with _ | _ | j
    · obtain rfl : Value.int .i64 xa = u := by simpa using hu
      exact h.cell 0 rfl
    · obtain rfl : Value.slice A' n' c' = u := by simpa using hu
      exact h.cell 1 rfl
    · simp at hu⟩⟩
theorem readsM {w : World} {B bk : Nat} (h : BoxS w B 105 #[.map (some bk)]) : Reads w w.heap.size 1 (some ⟨B, 0, none⟩) 1 [.map (some bk)] :=
  ⟨rfl, fun _ => ⟨_, rfl, h.lt, fun j u hu => by
    rcases j with _ | j
    · obtain rfl : Value.map (some bk) = u := by simpa using hu
      exact h.cell 0 rfl
    · simp at hu⟩⟩
theorem wpIn_appT (s y : Operand) (ho : o.op = .call { callee := .builtin .append, args := #[s, y], argTypes := #[26, 26] }) (B : Nat) (v : Value) (m : Nat) (xs : List Value) (hs : a.eval s = v) (hown : wr.ownsRow B 31 2 v m xs)
    (b : Nat) (xa : Int) (A' : Option Addr) (n' c' : Nat) (hx : a.eval y = .slice (some ⟨b, 0, none⟩) 1 1) (hb : BoxS wr b 31 #[.int .i64 xa, .slice A' n' c']) (hm : m ≤ 10000) (hB : B ≤ wr.heap.size)
    (h : ∀ A'' c'' w', w'.ownsRow B 31 2 (.slice A'' (m + 1) c'') (m + 1) (xs ++ [.int .i64 xa, .slice A' n' c']) → wr.grownBy w' v.ownBlock → (Value.ownBlock (.slice A'' (m + 1) c'') = v.ownBlock ∨ Value.ownBlock (.slice A'' (m + 1) c'') = some wr.heap.size) → K (a.put o.dst (.slice A'' (m + 1) c'')) w') : o.wpIn F n Try.prog a wr K Q := by
  obtain ⟨i0, hi0, hz0, hz1, hz2⟩ := info_parts1w test_info
  refine wpIn_append_any wr s y 26 ho B 31 i0 (.agg #[.int .i64 0, .slice none 0 0]) 2 32 Try.underlying26 hi0 hz0 hz1 hz2 rfl (by decide) v m xs hs hown wr.heap.size (some ⟨b, 0, none⟩) 1 1 [.int .i64 xa, .slice A' n' c'] hx (readsT hb) (fun u hu => by
    rcases List.mem_cons.1 hu with rfl | hu
    · rfl
    · obtain rfl : u = .slice A' n' c' := by simpa using hu
      rfl) (by simp only [maxLen]; omega) (by omega) hB ?_
  intro v' w' h2 h3 h4
  obtain ⟨A'', c'', rfl⟩ := own_form2 h2
  exact h A'' c'' w' h2 h3 h4
theorem wpIn_appM (s y : Operand) (ho : o.op = .call { callee := .builtin .append, args := #[s, y], argTypes := #[71, 71] }) (B : Nat) (v : Value) (m : Nat) (xs : List Value) (hs : a.eval s = v) (hown : wr.ownsRow B 105 1 v m xs)
    (b bk : Nat) (hx : a.eval y = .slice (some ⟨b, 0, none⟩) 1 1) (hb : BoxS wr b 105 #[.map (some bk)]) (hm : m ≤ 10000) (hB : B ≤ wr.heap.size)
    (h : ∀ A'' c'' w', w'.ownsRow B 105 1 (.slice A'' (m + 1) c'') (m + 1) (xs ++ [.map (some bk)]) → wr.grownBy w' v.ownBlock → (Value.ownBlock (.slice A'' (m + 1) c'') = v.ownBlock ∨ Value.ownBlock (.slice A'' (m + 1) c'') = some wr.heap.size) → K (a.put o.dst (.slice A'' (m + 1) c'')) w') : o.wpIn F n Try.prog a wr K Q := by
  obtain ⟨i0, hi0, hz0, hz1, hz2⟩ := info_parts1w map_info
  refine wpIn_append_any wr s y 71 ho B 105 i0 (.map none) 1 8 Try.underlying71 hi0 hz0 hz1 hz2 rfl (by decide) v m xs hs hown wr.heap.size (some ⟨b, 0, none⟩) 1 1 [.map (some bk)] hx (readsM hb) (fun u hu => by
    obtain rfl : u = .map (some bk) := by simpa using hu
    rfl) (by simp only [maxLen]; omega) (by omega) hB ?_
  intro v' w' h2 h3 h4
  obtain ⟨A'', c'', rfl⟩ := owni_form h2
  exact h A'' c'' w' h2 h3 h4
end
def boxIf (b : Bool) (B : Nat) (t : TypeId) (vs : Array Value) : Thing := if b then .box B t vs else .no
def rowIf (b : Bool) (v v' : Value) (e : TypeId) (size n : Nat) (xs xs' : List Value) : Thing := if b then .row v' e size (n + 1) xs' else .row v e size n xs
/-- What holds after some of the four operations. -/
def twoI (N0 i1 i2 i3 i4 d1 d2 d3 d4 J : Nat) (tf : TypeId) (vf : Array Value) (k : Nat) (vT vM : Value) (xT xM : List Value) (xa : Int) (A' : Option Addr) (n' c' bk : Nat) (L : List Thing) (w0 : World) (a : Act) (s : Nat → Bool) (a' : Act) (w' : World) : Prop :=
  ∃ (AT AM : Option Addr) (cT cM B1 B3 : Nat), a' = putIf (s i4) d4 (.slice AM (k + 1) cM) (putIf (s i3) d3 (.slice (some ⟨B3, 0, none⟩) 1 1) (putIf (s i2) d2 (.slice AT (k + 1) cT) (putIf (s i1) d1 (.slice (some ⟨B1, 0, none⟩) 1 1) a))) ∧ Below N0 w0 w' ∧ ((s i2 = true → s i1 = true) ∧ (s i4 = true → s i3 = true)) ∧
    Has w' N0 (.box J tf vf :: rowIf (s i2) vT (.slice AT (k + 1) cT) 31 2 k xT (xT ++ [.int .i64 xa, .slice A' n' c']) :: rowIf (s i4) vM (.slice AM (k + 1) cM) 105 1 k xM (xM ++ [.map (some bk)]) ::
      boxIf (s i1) B1 31 #[.int .i64 xa, .slice A' n' c'] :: boxIf (s i3) B3 105 #[.map (some bk)] :: L)
section
variable {F : Fence} {n : Nat} {ops : Array Oper} {Q : Exit → Act → World → Prop} {md : Region.Mode} {S : World → Prop} {c : Nat}
theorem wpHeldIn_app2 (i1 i2 i3 i4 d1 d2 d3 d4 t1 tT t3 tM : Nat) {o1 o2 o3 o4 : Oper} {pre done : Array Bool} {a0 : Act} {w0 : World} {N0 J : Nat} {tf : TypeId} {vf : Array Value} {fuel f0 : Nat} {k : Nat} {vT vM : Value} {xT xM : List Value} {xa : Int} {A' : Option Addr} {n' c' bk : Nat} (hf : fuel = 4 + f0)
    (g1 : ops[i1]? = some o1) (g2 : ops[i2]? = some o2) (g3 : ops[i3]? = some o3) (g4 : ops[i4]? = some o4)
    (e1 : o1.op = .buildSlice 26 1 #[(0, .tmp t1)]) (e2 : o2.op = .call { callee := .builtin .append, args := #[.tmp tT, .tmp d1], argTypes := #[26, 26] })
    (e3 : o3.op = .buildSlice 71 1 #[(0, .tmp t3)]) (e4 : o4.op = .call { callee := .builtin .append, args := #[.tmp tM, .tmp d3], argTypes := #[71, 71] })
    (p1 : o1.dst = some d1) (p2 : o2.dst = some d2) (p3 : o3.dst = some d3) (p4 : o4.dst = some d4)
    (hchk : anyB md ops c [i1, i2, i3, i4] [(i1, i2), (i3, i4)] pre = true) (hdone : marked pre [i1, i2, i3, i4] (fun _ => true) = done) (hpre : marked pre [i1, i2, i3, i4] (fun _ => false) = pre)
    (hJ : [i1, i2, i3, i4].Nodup) (hd : [d1, d2, d3, d4, t1, tT, t3, tM].Nodup) (hsz : d1 < a0.tmps.size ∧ d3 < a0.tmps.size)
    (hx1 : a0.eval (.tmp t1) = .agg #[.int .i64 xa, .slice A' n' c']) (hxT : a0.eval (.tmp tT) = vT) (hx3 : a0.eval (.tmp t3) = .map (some bk)) (hxM : a0.eval (.tmp tM) = vM) (hk : k ≤ 10000) (hN : N0 ≤ w0.heap.size)
    (L : List Thing) (hH : Has w0 N0 (.box J tf vf :: .row vT 31 2 k xT :: .row vM 105 1 k xM :: .no :: .no :: L))
    (hS : ∀ V, Below N0 w0 V → BoxS V J tf vf → S V)
    (hend : ∀ v1 v3 AT cT AM cM T4 T5 w', Below N0 w0 w' → Has w' N0 (.box J tf vf :: .row (.slice AT (k + 1) cT) 31 2 (k + 1) (xT ++ [.int .i64 xa, .slice A' n' c']) :: .row (.slice AM (k + 1) cM) 105 1 (k + 1) (xM ++ [.map (some bk)]) :: T4 :: T5 :: L) →
      wpHeldIn F n Try.prog md ops Q S c f0 done ((((a0.put (some d1) v1).put (some d2) (.slice AT (k + 1) cT)).put (some d3) v3).put (some d4) (.slice AM (k + 1) cM)) w') :
    wpHeldIn F n Try.prog md ops Q S c fuel pre a0 w0 := by
  have hJ' := hJ
  simp only [List.nodup_cons, List.mem_cons, List.not_mem_nil, or_false, not_or, not_false_eq_true, List.nodup_nil, and_true] at hJ hd
  obtain ⟨⟨j12, j13, j14⟩, ⟨j23, j24⟩, j34⟩ := hJ
  obtain ⟨⟨d12, d13, d14, d1a, d1b, d1c, d1d⟩, ⟨d23, d24, d2a, d2b, d2c, d2d⟩, ⟨d34, d3a, d3b, d3c, d3d⟩, ⟨d4a, d4b, d4c, d4d⟩, _⟩ := hd
  have b12 : (i1 == i2) = false := beq_eq_false_iff_ne.2 j12
  have b21 : (i2 == i1) = false := beq_eq_false_iff_ne.2 (Ne.symm j12)
  have b13 : (i1 == i3) = false := beq_eq_false_iff_ne.2 j13
  have b31 : (i3 == i1) = false := beq_eq_false_iff_ne.2 (Ne.symm j13)
  have b14 : (i1 == i4) = false := beq_eq_false_iff_ne.2 j14
  have b41 : (i4 == i1) = false := beq_eq_false_iff_ne.2 (Ne.symm j14)
  have b23 : (i2 == i3) = false := beq_eq_false_iff_ne.2 j23
  have b32 : (i3 == i2) = false := beq_eq_false_iff_ne.2 (Ne.symm j23)
  have b24 : (i2 == i4) = false := beq_eq_false_iff_ne.2 j24
  have b42 : (i4 == i2) = false := beq_eq_false_iff_ne.2 (Ne.symm j24)
  have b34 : (i3 == i4) = false := beq_eq_false_iff_ne.2 j34
  have b43 : (i4 == i3) = false := beq_eq_false_iff_ne.2 (Ne.symm j34)
  refine wpHeldIn_any [i1, i2, i3, i4] [(i1, i2), (i3, i4)] (twoI N0 i1 i2 i3 i4 d1 d2 d3 d4 J tf vf k vT vM xT xM xa A' n' c' bk L w0) (f0 := f0) hf hJ' hchk hdone hpre ?_ ?_ ?_
  · exact ⟨none, none, 0, 0, 0, 0, rfl, Below.refl _ _, ⟨fun h => h, fun h => h⟩, hH⟩
  · intro j o hj ho s a w hI hsj hdep K hK
    obtain ⟨AT, AM, cT, cM, B1, B3, rfl, hB, ⟨hi2, hi4⟩, hHw⟩ := hI
    have hNw : N0 ≤ w.heap.size := Nat.le_trans hN hB.size
    have hbJ : BoxS w J tf vf := (show Thing.In w N0 (.box J tf vf) from hHw.get 0 rfl).1
    have hJl : N0 ≤ J := (show Thing.In w N0 (.box J tf vf) from hHw.get 0 rfl).2
    simp only [List.mem_cons, List.not_mem_nil, or_false] at hj
    rcases hj with rfl | rfl | rfl | rfl
    · -- the slice of one test
      rw [g1] at ho
      cases ho
      have s2 : s i2 = false := by
        cases h : s i2
        · rfl
        · rw [hi2 h] at hsj; cases hsj
      rw [s2, hsj]
      rw [s2, hsj] at hHw
      refine wpIn_buildT (.tmp t1) e1 xa A' n' c' ?_ (hK _ _ (hS _ (hB.alloc hNw _) (hbJ.alloc _)) ?_)
      · show (putIf (s i4) d4 _ (putIf (s i3) d3 _ a0)).eval (.tmp t1) = _
        rw [putIf_ne (Ne.symm d4a), putIf_ne (Ne.symm d3a)]
        exact hx1
      rw [p1]
      refine ⟨AT, AM, cT, cM, w.heap.size, B3, ?_, hB.alloc hNw _, ⟨fun h => ?_, fun h => ?_⟩, ?_⟩
      · simp only [upd, BEq.rfl, b21, b31, b41, Bool.true_or, Bool.false_or, s2, hsj]
        show (putIf (s i4) d4 _ (putIf (s i3) d3 _ a0)).put (some d1) _ = putIf (s i4) d4 _ (putIf (s i3) d3 _ (a0.put (some d1) _))
        rw [putIf_put (Ne.symm d14), putIf_put (Ne.symm d13)]
      · simp [upd]
      · simp only [upd, b31, b41, Bool.false_or] at h ⊢
        exact hi4 h
      · have := hHw.fresh 3 (by simp [boxIf]) (w' := w.alloc (.cells #[.int .i64 xa, .slice A' n' c'] 31)) (n := w.heap.size) ((Below.refl _ _).alloc (Nat.le_refl _) _) (Nat.le_refl _) (T' := .box w.heap.size 31 #[.int .i64 xa, .slice A' n' c']) ⟨BoxS.new w _ _, Nat.le_refl _⟩ hNw
        simpa [upd, boxIf, rowIf, b21, b31, b41, s2] using this
    · -- one more test
      rw [g2] at ho
      cases ho
      have s1 : s i1 = true := hdep i1 (by simp)
      rw [hsj, s1]
      rw [hsj, s1] at hHw
      have hrow : w.ownsRow N0 31 2 vT k xT := hHw.get 1 rfl
      have hbx : BoxS w B1 31 #[.int .i64 xa, .slice A' n' c'] := (show Thing.In w N0 (.box B1 31 #[.int .i64 xa, .slice A' n' c']) from hHw.get 3 rfl).1
      refine wpIn_appT (.tmp tT) (.tmp d1) e2 N0 vT k xT ?_ hrow B1 xa A' n' c' ?_ hbx hk hNw ?_
      · show (putIf (s i4) d4 _ (putIf (s i3) d3 _ (a0.put (some d1) _))).eval (.tmp tT) = _
        rw [putIf_ne (Ne.symm d4b), putIf_ne (Ne.symm d3b), put_ne (Ne.symm d1b)]
        exact hxT
      · show (putIf (s i4) d4 _ (putIf (s i3) d3 _ (a0.put (some d1) _))).eval (.tmp d1) = _
        rw [putIf_ne d14, putIf_ne d13, put_eq hsz.1]
      intro A'' c'' w' h2 h3 h4
      have hB' : Below N0 w0 w' := hB.grown h3 hNw (fun j hj => (hrow.lt j hj).1)
      have hTin : Thing.In w' N0 (.row (.slice A'' (k + 1) c'') 31 2 (k + 1) (xT ++ [Value.int .i64 xa, Value.slice A' n' c'])) := h2
      have hH' := hHw.change 1 (T := .row vT 31 2 k xT) rfl h3 (fun g h => h) hTin (fun g hg => by
        rcases h4 with h4 | h4
        · exact .inl (show vT.ownBlock = some g from h4.symm.trans hg)
        · refine .inr ?_
          have e : Thing.blk (.row (.slice A'' (k + 1) c'') 31 2 (k + 1) (xT ++ [.int .i64 xa, .slice A' n' c'])) = some w.heap.size := h4
          rw [e] at hg
          injection hg with hg
          omega)
      rw [p2]
      refine hK _ _ (hS _ hB' (show Thing.In w' N0 (.box J tf vf) from hH'.get 0 rfl).1) ?_
      refine ⟨A'', AM, c'', cM, B1, B3, ?_, hB', ⟨fun h => ?_, fun h => ?_⟩, ?_⟩
      · simp only [upd, BEq.rfl, b12, b32, b42, Bool.true_or, Bool.false_or, s1]
        show (putIf (s i4) d4 _ (putIf (s i3) d3 _ (a0.put (some d1) _))).put (some d2) _ = putIf (s i4) d4 _ (putIf (s i3) d3 _ ((a0.put (some d1) _).put (some d2) _))
        rw [putIf_put (Ne.symm d24), putIf_put (Ne.symm d23)]
      · simp only [upd, b12, Bool.false_or, s1]
      · simp only [upd, b32, b42, Bool.false_or] at h ⊢
        exact hi4 h
      · simpa [upd, boxIf, rowIf, b12, b32, b42, s1] using hH'
    · -- the slice of one map
      rw [g3] at ho
      cases ho
      have s4 : s i4 = false := by
        cases h : s i4
        · rfl
        · rw [hi4 h] at hsj; cases hsj
      rw [s4, hsj]
      rw [s4, hsj] at hHw
      refine wpIn_buildM (.tmp t3) e3 bk ?_ (hK _ _ (hS _ (hB.alloc hNw _) (hbJ.alloc _)) ?_)
      · show (putIf (s i2) d2 _ (putIf (s i1) d1 _ a0)).eval (.tmp t3) = _
        rw [putIf_ne (Ne.symm d2c), putIf_ne (Ne.symm d1c)]
        exact hx3
      rw [p3]
      refine ⟨AT, AM, cT, cM, B1, w.heap.size, ?_, hB.alloc hNw _, ⟨fun h => ?_, fun h => ?_⟩, ?_⟩
      · simp only [upd, BEq.rfl, b13, b23, b43, Bool.true_or, Bool.false_or, s4]
        rfl
      · simp only [upd, b13, b23, Bool.false_or] at h ⊢
        exact hi2 h
      · simp [upd]
      · have := hHw.fresh 4 (by simp [boxIf]) (w' := w.alloc (.cells #[.map (some bk)] 105)) (n := w.heap.size) ((Below.refl _ _).alloc (Nat.le_refl _) _) (Nat.le_refl _) (T' := .box w.heap.size 105 #[.map (some bk)]) ⟨BoxS.new w _ _, Nat.le_refl _⟩ hNw
        simpa [upd, boxIf, rowIf, b13, b23, b43, s4] using this
    · -- one more map
      rw [g4] at ho
      cases ho
      have s3 : s i3 = true := hdep i3 (by simp)
      rw [hsj, s3]
      rw [hsj, s3] at hHw
      have hrow : w.ownsRow N0 105 1 vM k xM := hHw.get 2 rfl
      have hbx : BoxS w B3 105 #[.map (some bk)] := (show Thing.In w N0 (.box B3 105 #[.map (some bk)]) from hHw.get 4 rfl).1
      refine wpIn_appM (.tmp tM) (.tmp d3) e4 N0 vM k xM ?_ hrow B3 bk ?_ hbx hk hNw ?_
      · show ((putIf (s i2) d2 _ (putIf (s i1) d1 _ a0)).put (some d3) _).eval (.tmp tM) = _
        rw [put_ne (Ne.symm d3d), putIf_ne (Ne.symm d2d), putIf_ne (Ne.symm d1d)]
        exact hxM
      · show ((putIf (s i2) d2 _ (putIf (s i1) d1 _ a0)).put (some d3) _).eval (.tmp d3) = _
        rw [put_eq (by rw [putIf_size, putIf_size]; exact hsz.2)]
      intro A'' c'' w' h2 h3 h4
      have hB' : Below N0 w0 w' := hB.grown h3 hNw (fun j hj => (hrow.lt j hj).1)
      have hTin : Thing.In w' N0 (.row (.slice A'' (k + 1) c'') 105 1 (k + 1) (xM ++ [Value.map (some bk)])) := h2
      have hH' := hHw.change 2 (T := .row vM 105 1 k xM) rfl h3 (fun g h => h) hTin (fun g hg => by
        rcases h4 with h4 | h4
        · exact .inl (show vM.ownBlock = some g from h4.symm.trans hg)
        · refine .inr ?_
          have e : Thing.blk (.row (.slice A'' (k + 1) c'') 105 1 (k + 1) (xM ++ [.map (some bk)])) = some w.heap.size := h4
          rw [e] at hg
          injection hg with hg
          omega)
      rw [p4]
      refine hK _ _ (hS _ hB' (show Thing.In w' N0 (.box J tf vf) from hH'.get 0 rfl).1) ?_
      refine ⟨AT, A'', cT, c'', B1, B3, ?_, hB', ⟨fun h => ?_, fun h => ?_⟩, ?_⟩
      · simp only [upd, BEq.rfl, b14, b24, b34, Bool.true_or, Bool.false_or, s3]
        rfl
      · simp only [upd, b14, b24, Bool.false_or] at h ⊢
        exact hi2 h
      · simp only [upd, b34, Bool.false_or, s3]
      · simpa [upd, boxIf, rowIf, b14, b24, b34, s3] using hH'
  · intro s a w hall hI
    obtain ⟨AT, AM, cT, cM, B1, B3, rfl, hB, _, hHw⟩ := hI
    have s1 := hall i1 (by simp)
    have s2 := hall i2 (by simp)
    have s3 := hall i3 (by simp)
    have s4 := hall i4 (by simp)
    rw [s1, s2, s3, s4] at hHw
    rw [s1, s2, s3, s4]
    exact hend _ _ AT cT AM cM _ _ w hB hHw
end
end Go.Proofs.Ytkmacpkjobdffaa
