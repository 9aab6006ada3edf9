/- Wheels: 'append(append([]Walk{}, l...), k)' in a drawn region, whatever the order. -/
import Derived.Test.YtecmlakcpgkfbaaWkF
namespace Go.Proofs.Ytecmlakcpgkfbaa
open Go.RowKit
theorem run_build0 (W : World) : (Instr.buildSlice 26 0 #[]).run Try.prog W = .ok (.slice (some ⟨W.heap.size, 0, none⟩) 0 0) (W.alloc (.cells #[] 54)) := by kernel_rfl
theorem run_build1 (a b c d e : Int) (W : World) : (Instr.buildSlice 26 1 #[(0, .agg #[.int .i64 a, .int .i64 b, .int .i64 c, .int .i64 d, .int .i64 e])]).run Try.prog W = .ok (.slice (some ⟨W.heap.size, 0, none⟩) 1 1) (W.alloc (.cells #[.int .i64 a, .int .i64 b, .int .i64 c, .int .i64 d, .int .i64 e] 54)) := by kernel_rfl
def wkVal (k : Wh.Wk) : Value := .agg #[.int .i64 k.1, .int .i64 k.2.1, .int .i64 k.2.2.1, .int .i64 k.2.2.2.1, .int .i64 k.2.2.2.2]
section
variable {F : Fence} {n : Nat} {o : Oper} {a : Act} {K : Act → World → Prop} {Q : Exit → Act → World → Prop} {wr : World}
theorem wpIn_build0 (ho : o.op = .buildSlice 26 0 #[]) (h : K (a.put o.dst (.slice (some ⟨wr.heap.size, 0, none⟩) 0 0)) (wr.alloc (.cells #[] 54))) : o.wpIn F n Try.prog a wr K Q := by
  refine ⟨fun f hf => ?_, ?_⟩
  · unfold Oper.about at hf
    rw [ho] at hf
    cases hf
  · rw [Oper.semAt_eq _ _ _ (fun c hc => by rw [ho] at hc; cases hc)]
    unfold execOp
    simp only [ho, List.map_toArray, List.map_nil, Sem.run_bind, run_build0, Result.andThen_ok, Sem.run_pure]
    exact h
theorem wpIn_build1 (x : Operand) (ho : o.op = .buildSlice 26 1 #[(0, x)]) (k : Wh.Wk) (hx : a.eval x = wkVal k)
    (h : K (a.put o.dst (.slice (some ⟨wr.heap.size, 0, none⟩) 1 1)) (wr.alloc (.cells (flat5 k).toArray 54))) : o.wpIn F n Try.prog a wr K Q := by
  refine ⟨fun f hf => ?_, ?_⟩
  · unfold Oper.about at hf
    rw [ho] at hf
    cases hf
  · rw [Oper.semAt_eq _ _ _ (fun c hc => by rw [ho] at hc; cases hc)]
    unfold execOp
    simp only [ho, List.map_toArray, List.map_cons, List.map_nil, hx, wkVal, Sem.run_bind, run_build1, Result.andThen_ok, Sem.run_pure]
    exact h
theorem wpIn_appw (s y : Operand) (ho : o.op = .call { callee := .builtin .append, args := #[s, y], argTypes := #[26, 26] }) (B : Nat) (v : Value) (m : Nat) (xs : List Value) (hs : a.eval s = v) (hown : wr.ownsRow B 54 5 v m xs)
    (A : Option Addr) (m2 c2 : Nat) (news : List Value) (hx : a.eval y = .slice A m2 c2) (hr : Reads wr wr.heap.size 5 A m2 news) (h1 : ∀ u ∈ news, u.oneCell' = true) (hm : m + m2 ≤ 10000000) (hB : B ≤ wr.heap.size)
    (h : ∀ A' c' w', w'.ownsRow B 54 5 (.slice A' (m + m2) c') (m + m2) (xs ++ news) → wr.grownBy w' v.ownBlock → (Value.ownBlock (.slice A' (m + m2) c') = v.ownBlock ∨ Value.ownBlock (.slice A' (m + m2) c') = some wr.heap.size) → K (a.put o.dst (.slice A' (m + m2) c')) w') : o.wpIn F n Try.prog a wr K Q := by
  obtain ⟨i0, hi0, hz0, hz1, hz2⟩ := info_parts5 walk_info
  refine wpIn_append_any wr s y 26 ho B 54 i0 (.agg #[.int .i64 0, .int .i64 0, .int .i64 0, .int .i64 0, .int .i64 0]) 5 40 Try.underlying26 hi0 hz0 hz1 hz2 rfl (by decide) v m xs hs hown wr.heap.size A m2 c2 news hx hr h1 (by simp only [maxLen]; omega) (by omega) hB ?_
  intro v' w' h2 h3 h4
  obtain ⟨A', c', rfl⟩ := own_form5 h2
  exact h A' c' w' h2 h3 h4
end
def cpT (b1 b3 : Bool) (u1 u3 : Value) (ws : List Wh.Wk) : Thing := if b3 then .row u3 54 5 ws.length (flatW ws) else if b1 then .row u1 54 5 0 [] else .no
def nwT (b5 : Bool) (B : Nat) (k : Wh.Wk) : Thing := if b5 then .box B 54 (flat5 k).toArray else .no
/-- What holds after some of the four operations. -/
def pushI (i1 i3 i5 i6 d1 d3 d5 d6 : Nat) (ws : List Wh.Wk) (k : Wh.Wk) (w0 : World) (a : Act) (s : Nat → Bool) (a' : Act) (w' : World) : Prop :=
  ∃ (u1 u3 u6 : Value) (B : Nat), a' = putIf (s i6) d6 u6 (putIf (s i5) d5 (.slice (some ⟨B, 0, none⟩) 1 1) (putIf (s i3) d3 u3 (putIf (s i1) d1 u1 a))) ∧ Below w0.heap.size w0 w' ∧ ((s i3 = true → s i1 = true) ∧ (s i6 = true → s i3 = true ∧ s i5 = true)) ∧
    (s i6 = true → ∃ A' c', u6 = .slice A' (ws.length + 1) c' ∧ Wks w' w'.heap.size A' (ws ++ [k])) ∧ (s i6 = false → Has w' w0.heap.size [cpT (s i1) (s i3) u1 u3 ws, nwT (s i5) B k])
theorem has_none (w : World) (NB : Nat) : Has w NB [.no, .no] := ⟨fun T hT => by
  have : T = .no := by simpa using hT
  subst this; trivial, by simp [Thing.blk]⟩
section
variable {F : Fence} {n : Nat} {ops : Array Oper} {Q : Exit → Act → World → Prop} {md : Region.Mode} {c : Nat}
theorem wpHeldIn_pushw (i1 i3 i5 i6 d1 d3 d5 d6 t3 t5 : Nat) {o1 o3 o5 o6 : Oper} {pre done : Array Bool} {a0 : Act} {w0 wb : World} {fuel f0 : Nat} {A : Option Addr} {cc : Nat} {ws : List Wh.Wk} (k : Wh.Wk) (hf : fuel = 4 + f0)
    (g1 : ops[i1]? = some o1) (g3 : ops[i3]? = some o3) (g5 : ops[i5]? = some o5) (g6 : ops[i6]? = some o6)
    (e1 : o1.op = .buildSlice 26 0 #[]) (e3 : o3.op = .call { callee := .builtin .append, args := #[.tmp d1, .tmp t3], argTypes := #[26, 26] })
    (e5 : o5.op = .buildSlice 26 1 #[(0, .tmp t5)]) (e6 : o6.op = .call { callee := .builtin .append, args := #[.tmp d3, .tmp d5], argTypes := #[26, 26] })
    (p1 : o1.dst = some d1) (p3 : o3.dst = some d3) (p5 : o5.dst = some d5) (p6 : o6.dst = some d6)
    (hchk : anyB md ops c [i1, i3, i5, i6] [(i1, i3), (i3, i6), (i5, i6)] pre = true) (hdone : marked pre [i1, i3, i5, i6] (fun _ => true) = done) (hpre : marked pre [i1, i3, i5, i6] (fun _ => false) = pre)
    (hJ : [i1, i3, i5, i6].Nodup) (hd : [d1, d3, d5, d6, t3, t5].Nodup) (hsz : d1 < a0.tmps.size ∧ d3 < a0.tmps.size ∧ d5 < a0.tmps.size)
    (hx3 : a0.eval (.tmp t3) = .slice A ws.length cc) (hx5 : a0.eval (.tmp t5) = wkVal k) (hW : Wks w0 w0.heap.size A ws) (hl : ws.length ≤ 1000000) (hb0 : Below wb.heap.size wb w0)
    (hend : ∀ v1 v3 v5 A' c' w', Wks w' w'.heap.size A' (ws ++ [k]) → Below wb.heap.size wb w' →
      wpHeldIn F n Try.prog md ops Q (fun W' => Below wb.heap.size wb W') c f0 done ((((a0.put (some d1) v1).put (some d3) v3).put (some d5) v5).put (some d6) (.slice A' (ws.length + 1) c')) w') :
    wpHeldIn F n Try.prog md ops Q (fun W' => Below wb.heap.size wb W') c fuel pre a0 w0 := by
  have hJ' := hJ
  simp only [List.nodup_cons, List.mem_cons, List.not_mem_nil, or_false, not_or, not_false_eq_true, List.nodup_nil, and_true] at hJ hd
  obtain ⟨⟨j13, j15, j16⟩, ⟨j35, j36⟩, j56⟩ := hJ
  obtain ⟨⟨d13, d15, d16, d1t, d1u⟩, ⟨d35, d36, d3t, d3u⟩, ⟨d56, d5t, d5u⟩, ⟨d6t, d6u⟩, _⟩ := hd
  have b13 : (i1 == i3) = false := beq_eq_false_iff_ne.2 j13
  have b31 : (i3 == i1) = false := beq_eq_false_iff_ne.2 (Ne.symm j13)
  have b15 : (i1 == i5) = false := beq_eq_false_iff_ne.2 j15
  have b51 : (i5 == i1) = false := beq_eq_false_iff_ne.2 (Ne.symm j15)
  have b16 : (i1 == i6) = false := beq_eq_false_iff_ne.2 j16
  have b61 : (i6 == i1) = false := beq_eq_false_iff_ne.2 (Ne.symm j16)
  have b35 : (i3 == i5) = false := beq_eq_false_iff_ne.2 j35
  have b53 : (i5 == i3) = false := beq_eq_false_iff_ne.2 (Ne.symm j35)
  have b36 : (i3 == i6) = false := beq_eq_false_iff_ne.2 j36
  have b63 : (i6 == i3) = false := beq_eq_false_iff_ne.2 (Ne.symm j36)
  have b56 : (i5 == i6) = false := beq_eq_false_iff_ne.2 j56
  have b65 : (i6 == i5) = false := beq_eq_false_iff_ne.2 (Ne.symm j56)
  refine wpHeldIn_any [i1, i3, i5, i6] [(i1, i3), (i3, i6), (i5, i6)] (pushI i1 i3 i5 i6 d1 d3 d5 d6 ws k w0) (f0 := f0) hf hJ' hchk hdone hpre ?_ ?_ ?_
  · exact ⟨undef, undef, undef, 0, rfl, Below.refl _ _, ⟨fun h => h, fun h => ⟨h, h⟩⟩, (fun h => by cases h), fun _ => has_none _ _⟩
  · intro j o hj ho s a w hI hsj hdep K hK
    obtain ⟨u1, u3, u6, B, rfl, hB, ⟨hi3, hi6⟩, h6, hH⟩ := hI
    have hBw : Below wb.heap.size wb w := hb0.trans (hB.mono hb0.size)
    simp only [List.mem_cons, List.not_mem_nil, or_false] at hj
    rcases hj with rfl | rfl | rfl | rfl
    · -- the empty slice
      rw [g1] at ho
      cases ho
      have s3 : s i3 = false := by
        cases h : s i3
        · rfl
        · rw [hi3 h] at hsj; cases hsj
      have s6 : s i6 = false := by
        cases h : s i6
        · rfl
        · have := (hi6 h).1; rw [s3] at this; cases this
      have hHw := hH s6
      refine wpIn_build0 e1 (hK _ _ (hBw.alloc hBw.size _) ?_)
      rw [p1]
      refine ⟨.slice (some ⟨w.heap.size, 0, none⟩) 0 0, u3, u6, B, ?_, hB.alloc hB.size _, ⟨fun h => ?_, fun h => ?_⟩, fun h => ?_, fun _ => ?_⟩
      · simp only [upd, BEq.rfl, b31, b51, b61, Bool.true_or, Bool.false_or, s3, s6, hsj]
        show (putIf (s i5) d5 _ a0).put (some d1) _ = putIf (s i5) d5 _ (a0.put (some d1) _)
        exact putIf_put (Ne.symm d15) _ _ _
      · simp [upd]
      · simp only [upd, b61, Bool.false_or, s6] at h; cases h
      · simp only [upd, b61, Bool.false_or, s6] at h; cases h
      · have := hHw.fresh 0 (by simp [cpT, s3, hsj]) (w' := w.alloc (.cells #[] 54)) (n := w.heap.size) ((Below.refl _ _).alloc (Nat.le_refl _) _) (Nat.le_refl _) (T' := .row (.slice (some ⟨w.heap.size, 0, none⟩) 0 0) 54 5 0 []) (World.ownsRow_made w #[] 0 (Nat.le_refl _) (by simp [maxLen]) rfl) hB.size
        simpa [upd, cpT, nwT, b31, b51, s3] using this
    · -- the copy
      rw [g3] at ho
      cases ho
      have s1 : s i1 = true := hdep i1 (by simp)
      have s6 : s i6 = false := by
        cases h : s i6
        · rfl
        · have := (hi6 h).1; rw [hsj] at this; cases this
      have hHw := hH s6
      have hrow : w.ownsRow w0.heap.size 54 5 u1 0 [] := by
        have := hHw.get 0 rfl
        simpa [cpT, hsj, s1, Thing.In] using this
      rw [s6, hsj, s1]
      refine wpIn_appw (.tmp d1) (.tmp t3) e3 w0.heap.size u1 0 [] ?_ hrow A ws.length cc (flatW ws) ?_ ((hW.keep hB).wider hB.size).reads (flatW_one ws) (by omega) hB.size ?_
      · show (putIf (s i5) d5 _ (a0.put (some d1) u1)).eval (.tmp d1) = u1
        rw [putIf_ne d15, put_eq hsz.1]
      · show (putIf (s i5) d5 _ (a0.put (some d1) u1)).eval (.tmp t3) = _
        rw [putIf_ne (Ne.symm d5t), put_ne (Ne.symm d1t)]
        exact hx3
      intro A' c' w' h2 h3 h4
      have hB' : Below w0.heap.size w0 w' := hB.grown h3 hB.size (fun j hj => (hrow.lt j hj).1)
      rw [p3]
      refine hK _ _ (hb0.trans (hB'.mono hb0.size)) ?_
      simp only [Nat.zero_add, List.nil_append] at h2 h4 ⊢
      refine ⟨u1, .slice A' ws.length c', u6, B, ?_, hB', ⟨fun h => ?_, fun h => ?_⟩, fun h => ?_, fun _ => ?_⟩
      · simp only [upd, BEq.rfl, b13, b53, b63, Bool.true_or, Bool.false_or, s1, s6]
        show (putIf (s i5) d5 _ (a0.put (some d1) u1)).put (some d3) _ = putIf (s i5) d5 _ ((a0.put (some d1) u1).put (some d3) _)
        exact putIf_put (Ne.symm d35) _ _ _
      · simp only [upd, b13, Bool.false_or, s1]
      · simp only [upd, b63, Bool.false_or, s6] at h; cases h
      · simp only [upd, b63, Bool.false_or, s6] at h; cases h
      · have := hHw.change 0 (T := .row u1 54 5 0 []) (by simp [cpT, hsj, s1]) h3 (fun g h => h) (T' := .row (.slice A' ws.length c') 54 5 ws.length (flatW ws)) h2 (fun g hg => by
          rcases h4 with h4 | h4
          · exact .inl (show u1.ownBlock = some g from h4.symm.trans hg)
          · refine .inr ?_
            have e : Thing.blk (.row (.slice A' ws.length c') 54 5 ws.length (flatW ws)) = some w.heap.size := h4
            rw [e] at hg
            injection hg with hg
            omega)
        simpa [upd, cpT, nwT, b13, b53, s1] using this
    · -- the slice of one
      rw [g5] at ho
      cases ho
      have s6 : s i6 = false := by
        cases h : s i6
        · rfl
        · have := (hi6 h).2; rw [hsj] at this; cases this
      have hHw := hH s6
      rw [s6, hsj]
      refine wpIn_build1 (.tmp t5) e5 k ?_ (hK _ _ (hBw.alloc hBw.size _) ?_)
      · show (putIf (s i3) d3 _ (putIf (s i1) d1 u1 a0)).eval (.tmp t5) = _
        rw [putIf_ne (Ne.symm d3u), putIf_ne (Ne.symm d1u)]
        exact hx5
      rw [p5]
      refine ⟨u1, u3, u6, w.heap.size, ?_, hB.alloc hB.size _, ⟨fun h => ?_, fun h => ?_⟩, fun h => ?_, fun _ => ?_⟩
      · simp only [upd, BEq.rfl, b15, b35, b65, Bool.true_or, Bool.false_or, s6]
        rfl
      · simp only [upd, b15, b35, Bool.false_or] at h ⊢
        exact hi3 h
      · simp only [upd, b65, Bool.false_or, s6] at h; cases h
      · simp only [upd, b65, Bool.false_or, s6] at h; cases h
      · have := hHw.fresh 1 (by simp [nwT, hsj]) (w' := w.alloc (.cells (flat5 k).toArray 54)) (n := w.heap.size) ((Below.refl _ _).alloc (Nat.le_refl _) _) (Nat.le_refl _) (T' := .box w.heap.size 54 (flat5 k).toArray) ⟨BoxS.new w _ _, Nat.le_refl _⟩ hB.size
        simpa [upd, cpT, nwT, b15, b35] using this
    · -- one more walk
      rw [g6] at ho
      cases ho
      have s3 : s i3 = true := hdep i3 (by simp)
      have s5 : s i5 = true := hdep i5 (by simp)
      have s1 := hi3 s3
      have hHw := hH hsj
      have hrow : w.ownsRow w0.heap.size 54 5 u3 ws.length (flatW ws) := by
        have := hHw.get 0 rfl
        simpa [cpT, s3, Thing.In] using this
      have hbx : BoxS w B 54 (flat5 k).toArray := by
        have := hHw.get 1 rfl
        simp only [nwT, s5, Thing.In, if_true] at this
        exact this.1
      rw [hsj, s5, s3, s1]
      refine wpIn_appw (.tmp d3) (.tmp d5) e6 w0.heap.size u3 ws.length (flatW ws) ?_ hrow (some ⟨B, 0, none⟩) 1 1 (flat5 k) ?_ (reads5 hbx hbx.lt) (flat5_one k) (by omega) hB.size ?_
      · show (((a0.put (some d1) u1).put (some d3) u3).put (some d5) _).eval (.tmp d3) = u3
        rw [put_ne d35, put_eq (by rw [put_size]; exact hsz.2.1)]
      · show (((a0.put (some d1) u1).put (some d3) u3).put (some d5) _).eval (.tmp d5) = _
        rw [put_eq (by rw [put_size, put_size]; exact hsz.2.2)]
      intro A' c' w' h2 h3 h4
      have hB' : Below w0.heap.size w0 w' := hB.grown h3 hB.size (fun j hj => (hrow.lt j hj).1)
      rw [p6]
      refine hK _ _ (hb0.trans (hB'.mono hb0.size)) ?_
      refine ⟨u1, u3, .slice A' (ws.length + 1) c', B, ?_, hB', ⟨fun _ => ?_, fun _ => ⟨?_, ?_⟩⟩, fun _ => ⟨A', c', rfl, ?_⟩, fun h => ?_⟩
      · simp only [upd, BEq.rfl, b16, b36, b56, Bool.true_or, Bool.false_or, s1, s3, s5]
        rfl
      · simp only [upd, b16, Bool.false_or, s1]
      · simp only [upd, b36, Bool.false_or, s3]
      · simp only [upd, b56, Bool.false_or, s5]
      · have el : (ws ++ [k]).length = ws.length + 1 := by simp
        refine Wks.of_reads ?_
        rw [el]
        have h5 := Reads.of_own h2
        have ef : flatW (ws ++ [k]) = flatW ws ++ flat5 k := by rw [flatW_append]; simp [flatW]
        rw [ef]
        exact h5
      · simp only [upd, BEq.rfl, Bool.true_or] at h; cases h
  · intro s a w hall hI
    obtain ⟨u1, u3, u6, B, rfl, hB, _, h6, _⟩ := hI
    have s1 := hall i1 (by simp)
    have s3 := hall i3 (by simp)
    have s5 := hall i5 (by simp)
    have s6 := hall i6 (by simp)
    obtain ⟨A', c', rfl, hk⟩ := h6 s6
    rw [s1, s3, s5, s6]
    exact hend u1 u3 (.slice (some ⟨B, 0, none⟩) 1 1) A' c' w hk (hb0.trans (hB.mono hb0.size))
end
def emT (b1 : Bool) (u1 : Value) : Thing := if b1 then .row u1 54 5 0 [] else .no
/-- What holds after some of the three operations of 'append([]Walk{}, k)'. -/
def oneI (i1 i5 i6 d1 d5 d6 : Nat) (k : Wh.Wk) (w0 : World) (a : Act) (s : Nat → Bool) (a' : Act) (w' : World) : Prop :=
  ∃ (u1 u6 : Value) (B : Nat), a' = putIf (s i6) d6 u6 (putIf (s i5) d5 (.slice (some ⟨B, 0, none⟩) 1 1) (putIf (s i1) d1 u1 a)) ∧ Below w0.heap.size w0 w' ∧ (s i6 = true → s i1 = true ∧ s i5 = true) ∧
    (s i6 = true → ∃ A' c', u6 = .slice A' 1 c' ∧ Wks w' w'.heap.size A' [k]) ∧ (s i6 = false → Has w' w0.heap.size [emT (s i1) u1, nwT (s i5) B k])
section
variable {F : Fence} {n : Nat} {ops : Array Oper} {Q : Exit → Act → World → Prop} {md : Region.Mode} {c : Nat}
theorem wpHeldIn_onew (i1 i5 i6 d1 d5 d6 t5 : Nat) {o1 o5 o6 : Oper} {pre done : Array Bool} {a0 : Act} {w0 wb : World} {fuel f0 : Nat} (k : Wh.Wk) (hf : fuel = 3 + f0)
    (g1 : ops[i1]? = some o1) (g5 : ops[i5]? = some o5) (g6 : ops[i6]? = some o6)
    (e1 : o1.op = .buildSlice 26 0 #[]) (e5 : o5.op = .buildSlice 26 1 #[(0, .tmp t5)]) (e6 : o6.op = .call { callee := .builtin .append, args := #[.tmp d1, .tmp d5], argTypes := #[26, 26] })
    (p1 : o1.dst = some d1) (p5 : o5.dst = some d5) (p6 : o6.dst = some d6)
    (hchk : anyB md ops c [i1, i5, i6] [(i1, i6), (i5, i6)] pre = true) (hdone : marked pre [i1, i5, i6] (fun _ => true) = done) (hpre : marked pre [i1, i5, i6] (fun _ => false) = pre)
    (hJ : [i1, i5, i6].Nodup) (hd : [d1, d5, d6, t5].Nodup) (hsz : d1 < a0.tmps.size ∧ d5 < a0.tmps.size)
    (hx5 : a0.eval (.tmp t5) = wkVal k) (hb0 : Below wb.heap.size wb w0)
    (hend : ∀ v1 v5 A' c' w', Wks w' w'.heap.size A' [k] → Below wb.heap.size wb w' →
      wpHeldIn F n Try.prog md ops Q (fun W' => Below wb.heap.size wb W') c f0 done (((a0.put (some d1) v1).put (some d5) v5).put (some d6) (.slice A' 1 c')) w') :
    wpHeldIn F n Try.prog md ops Q (fun W' => Below wb.heap.size wb W') c fuel pre a0 w0 := by
  have hJ' := hJ
  simp only [List.nodup_cons, List.mem_cons, List.not_mem_nil, or_false, not_or, not_false_eq_true, List.nodup_nil, and_true] at hJ hd
  obtain ⟨⟨j15, j16⟩, j56⟩ := hJ
  obtain ⟨⟨d15, d16, d1u⟩, ⟨d56, d5u⟩, _⟩ := hd
  have b15 : (i1 == i5) = false := beq_eq_false_iff_ne.2 j15
  have b51 : (i5 == i1) = false := beq_eq_false_iff_ne.2 (Ne.symm j15)
  have b16 : (i1 == i6) = false := beq_eq_false_iff_ne.2 j16
  have b61 : (i6 == i1) = false := beq_eq_false_iff_ne.2 (Ne.symm j16)
  have b56 : (i5 == i6) = false := beq_eq_false_iff_ne.2 j56
  have b65 : (i6 == i5) = false := beq_eq_false_iff_ne.2 (Ne.symm j56)
  refine wpHeldIn_any [i1, i5, i6] [(i1, i6), (i5, i6)] (oneI i1 i5 i6 d1 d5 d6 k w0) (f0 := f0) hf hJ' hchk hdone hpre ?_ ?_ ?_
  · exact ⟨undef, undef, 0, rfl, Below.refl _ _, (fun h => ⟨h, h⟩), (fun h => by cases h), fun _ => has_none _ _⟩
  · intro j o hj ho s a w hI hsj hdep K hK
    obtain ⟨u1, u6, B, rfl, hB, hi6, h6, hH⟩ := hI
    have hBw : Below wb.heap.size wb w := hb0.trans (hB.mono hb0.size)
    simp only [List.mem_cons, List.not_mem_nil, or_false] at hj
    rcases hj with rfl | rfl | rfl
    · -- the empty slice
      rw [g1] at ho
      cases ho
      have s6 : s i6 = false := by
        cases h : s i6
        · rfl
        · have := (hi6 h).1; rw [hsj] at this; cases this
      have hHw := hH s6
      refine wpIn_build0 e1 (hK _ _ (hBw.alloc hBw.size _) ?_)
      rw [p1]
      refine ⟨.slice (some ⟨w.heap.size, 0, none⟩) 0 0, u6, B, ?_, hB.alloc hB.size _, fun h => ?_, fun h => ?_, fun _ => ?_⟩
      · simp only [upd, BEq.rfl, b51, b61, Bool.true_or, Bool.false_or, s6, hsj]
        show (putIf (s i5) d5 _ a0).put (some d1) _ = putIf (s i5) d5 _ (a0.put (some d1) _)
        exact putIf_put (Ne.symm d15) _ _ _
      · simp only [upd, b61, Bool.false_or, s6] at h; cases h
      · simp only [upd, b61, Bool.false_or, s6] at h; cases h
      · have := hHw.fresh 0 (by simp [emT, hsj]) (w' := w.alloc (.cells #[] 54)) (n := w.heap.size) ((Below.refl _ _).alloc (Nat.le_refl _) _) (Nat.le_refl _) (T' := .row (.slice (some ⟨w.heap.size, 0, none⟩) 0 0) 54 5 0 []) (World.ownsRow_made w #[] 0 (Nat.le_refl _) (by simp [maxLen]) rfl) hB.size
        simpa [upd, emT, nwT, b51] using this
    · -- the slice of one
      rw [g5] at ho
      cases ho
      have s6 : s i6 = false := by
        cases h : s i6
        · rfl
        · have := (hi6 h).2; rw [hsj] at this; cases this
      have hHw := hH s6
      rw [s6, hsj]
      refine wpIn_build1 (.tmp t5) e5 k ?_ (hK _ _ (hBw.alloc hBw.size _) ?_)
      · show (putIf (s i1) d1 u1 a0).eval (.tmp t5) = _
        rw [putIf_ne (Ne.symm d1u)]
        exact hx5
      rw [p5]
      refine ⟨u1, u6, w.heap.size, ?_, hB.alloc hB.size _, fun h => ?_, fun h => ?_, fun _ => ?_⟩
      · simp only [upd, BEq.rfl, b15, b65, Bool.true_or, Bool.false_or, s6]
        rfl
      · simp only [upd, b65, Bool.false_or, s6] at h; cases h
      · simp only [upd, b65, Bool.false_or, s6] at h; cases h
      · have := hHw.fresh 1 (by simp [nwT, hsj]) (w' := w.alloc (.cells (flat5 k).toArray 54)) (n := w.heap.size) ((Below.refl _ _).alloc (Nat.le_refl _) _) (Nat.le_refl _) (T' := .box w.heap.size 54 (flat5 k).toArray) ⟨BoxS.new w _ _, Nat.le_refl _⟩ hB.size
        simpa [upd, emT, nwT, b15] using this
    · -- the walk is appended
      rw [g6] at ho
      cases ho
      have s1 : s i1 = true := hdep i1 (by simp)
      have s5 : s i5 = true := hdep i5 (by simp)
      have hHw := hH hsj
      have hrow : w.ownsRow w0.heap.size 54 5 u1 0 [] := by
        have := hHw.get 0 rfl
        simpa [emT, s1, Thing.In] using this
      have hbx : BoxS w B 54 (flat5 k).toArray := by
        have := hHw.get 1 rfl
        simp only [nwT, s5, Thing.In, if_true] at this
        exact this.1
      rw [hsj, s5, s1]
      refine wpIn_appw (.tmp d1) (.tmp d5) e6 w0.heap.size u1 0 [] ?_ hrow (some ⟨B, 0, none⟩) 1 1 (flat5 k) ?_ (reads5 hbx hbx.lt) (flat5_one k) (by omega) hB.size ?_
      · show ((a0.put (some d1) u1).put (some d5) _).eval (.tmp d1) = u1
        rw [put_ne d15, put_eq hsz.1]
      · show ((a0.put (some d1) u1).put (some d5) _).eval (.tmp d5) = _
        rw [put_eq (by rw [put_size]; exact hsz.2)]
      intro A' c' w' h2 h3 h4
      have hB' : Below w0.heap.size w0 w' := hB.grown h3 hB.size (fun j hj => (hrow.lt j hj).1)
      rw [p6]
      refine hK _ _ (hb0.trans (hB'.mono hb0.size)) ?_
      simp only [Nat.zero_add, List.nil_append] at h2 ⊢
      refine ⟨u1, .slice A' 1 c', B, ?_, hB', fun _ => ⟨?_, ?_⟩, fun _ => ⟨A', c', rfl, ?_⟩, fun h => ?_⟩
      · simp only [upd, BEq.rfl, b16, b56, Bool.true_or, Bool.false_or, s1, s5]
        rfl
      · simp only [upd, b16, Bool.false_or, s1]
      · simp only [upd, b56, Bool.false_or, s5]
      · refine Wks.of_reads (cs := [k]) ?_
        have h5 := Reads.of_own h2
        have ef : flatW [k] = flat5 k := by simp [flatW]
        rw [ef]
        exact h5
      · simp only [upd, BEq.rfl, Bool.true_or] at h; cases h
  · intro s a w hall hI
    obtain ⟨u1, u6, B, rfl, hB, _, h6, _⟩ := hI
    have s1 := hall i1 (by simp)
    have s5 := hall i5 (by simp)
    have s6 := hall i6 (by simp)
    obtain ⟨A', c', rfl, hk⟩ := h6 s6
    rw [s1, s5, s6]
    exact hend u1 (.slice (some ⟨B, 0, none⟩) 1 1) A' c' w hk (hb0.trans (hB.mono hb0.size))
end
end Go.Proofs.Ytecmlakcpgkfbaa
