/- Wheels: slices of walks in memory: a copy, and one more walk, in any order of a drawn region. -/
import Derived.Test.YtecmlakcpgkfbaaLawCanc
import Derived.Test.YtecmlakcpgkfbaaAny
namespace Go.Proofs.Ytecmlakcpgkfbaa
open Go.RowKit
def flatW (ks : List Wh.Wk) : List Value := ks.flatMap flat5
theorem flatW_cons (k : Wh.Wk) (ks : List Wh.Wk) : flatW (k :: ks) = .int .i64 k.1 :: .int .i64 k.2.1 :: .int .i64 k.2.2.1 :: .int .i64 k.2.2.2.1 :: .int .i64 k.2.2.2.2 :: flatW ks := by simp [flatW, flat5]
theorem flatW_len (ks : List Wh.Wk) : (flatW ks).length = ks.length * 5 := by
  induction ks with
  | nil => rfl
  | cons k ks ih => rw [flatW_cons]; simp only [List.length_cons, ih]; omega
theorem flatW_append (a b : List Wh.Wk) : flatW (a ++ b) = flatW a ++ flatW b := List.flatMap_append ..
theorem flatW_get (ks : List Wh.Wk) : ∀ k, ((flatW ks)[k * 5]? = (ks[k]?).map (fun g => Value.int .i64 g.1) ∧ (flatW ks)[k * 5 + 1]? = (ks[k]?).map (fun g => Value.int .i64 g.2.1) ∧ (flatW ks)[k * 5 + 2]? = (ks[k]?).map (fun g => Value.int .i64 g.2.2.1)) ∧ (flatW ks)[k * 5 + 3]? = (ks[k]?).map (fun g => Value.int .i64 g.2.2.2.1) ∧ (flatW ks)[k * 5 + 4]? = (ks[k]?).map (fun g => Value.int .i64 g.2.2.2.2) := by
  induction ks with
  | nil => intro k; simp [flatW]
  | cons g ks ih =>
    intro k
    rw [flatW_cons]
    cases k with
    | zero => simp
    | succ k =>
      have h := ih k
      have e : (k + 1) * 5 = k * 5 + 5 := by omega
      rw [e]
      simpa using h
theorem flatW_one (ks : List Wh.Wk) : ∀ u ∈ flatW ks, u.oneCell' = true := by
  intro u hu
  unfold flatW at hu
  rw [List.mem_flatMap] at hu
  obtain ⟨k, _, hk⟩ := hu
  exact flat5_one k u hk
theorem Wks.reads {w : World} {B : Nat} {A : Option Addr} {cs : List Wh.Wk} (h : Wks w B A cs) : Reads w B 5 A cs.length (flatW cs) := by
  refine ⟨flatW_len cs, fun hn => ?_⟩
  obtain ⟨b, off, e, hB, hc⟩ := h hn
  refine ⟨_, e, hB, fun j u hu => ?_⟩
  rw [addr_add]
  obtain ⟨q, hq⟩ : ∃ q, q = j / 5 := ⟨_, rfl⟩
  have hj4 : q < cs.length := by
    have := (List.getElem?_eq_some_iff.1 hu).1
    rw [flatW_len] at this
    omega
  obtain ⟨⟨g0, g1, g2⟩, g3, g4⟩ := flatW_get cs q
  obtain ⟨h0, h1, h2, h3, h4⟩ := hc _ hj4
  have hk : cs[q]? = some (Wh.wkAt cs q) := by unfold Wh.wkAt; rw [List.getElem?_eq_getElem hj4]; rfl
  rw [hk] at g0 g1 g2 g3 g4
  rcases (by omega : j = q * 5 ∨ j = q * 5 + 1 ∨ j = q * 5 + 2 ∨ j = q * 5 + 3 ∨ j = q * 5 + 4) with hj | hj | hj | hj | hj
  · rw [hj, g0] at hu
    cases hu
    rw [hj]
    exact h0
  · rw [hj, g1] at hu
    cases hu
    rw [hj]
    exact h1
  · rw [hj, g2] at hu
    cases hu
    rw [hj]
    exact h2
  · rw [hj, g3] at hu
    cases hu
    rw [hj]
    exact h3
  · rw [hj, g4] at hu
    cases hu
    rw [hj]
    exact h4
theorem Wks.of_reads {w : World} {B : Nat} {A : Option Addr} {cs : List Wh.Wk} (h : Reads w B 5 A cs.length (flatW cs)) : Wks w B A cs := fun hn => by
  obtain ⟨ad, e, hB, hc⟩ := h.2 hn
  have hk : ∀ k, k < cs.length → cs[k]? = some (Wh.wkAt cs k) := fun k hk => by unfold Wh.wkAt; rw [List.getElem?_eq_getElem hk]; rfl
  have h0 := hc 0 _ ((flatW_get cs 0).1.1.trans (by rw [hk 0 hn]; rfl))
  have hs := World.cell?_spot h0
  obtain ⟨b, off, spot⟩ := ad
  have hs' : spot = none := by simpa [Addr.add] using hs
  subst hs'
  refine ⟨b, off, e, hB, fun k hkn => ?_⟩
  obtain ⟨⟨g0, g1, g2⟩, g3, g4⟩ := flatW_get cs k
  rw [hk k hkn] at g0 g1 g2 g3 g4
  have c0 := hc _ _ g0
  have c1 := hc _ _ g1
  have c2 := hc _ _ g2
  have c3 := hc _ _ g3
  have c4 := hc _ _ g4
  rw [addr_add] at c0 c1 c2 c3 c4
  exact ⟨c0, c1, c2, c3, c4⟩
theorem own_form5 {w : World} {B : Nat} {e : TypeId} {v : Value} {n : Nat} {xs : List Value} (h : w.ownsRow B e 5 v n xs) : ∃ A c, v = .slice A n c := by
  rcases h.2 with ⟨rfl, rfl⟩ | ⟨g, cap, cur, rfl, _⟩
  · exact ⟨none, 0, rfl⟩
  · exact ⟨some ⟨g, 0, none⟩, cap, rfl⟩
theorem wks_of_own {w : World} {B : Nat} {e : TypeId} {A : Option Addr} {c : Nat} {gs : List Wh.Wk} (h : w.ownsRow B e 5 (.slice A gs.length c) gs.length (flatW gs)) : Wks w w.heap.size A gs :=
  Wks.of_reads (Reads.of_own h)
/-- 'append([]Walk{}, l...)': a copy in new memory. -/
theorem wpList_copyw {ops : Array Oper} {rest : List Oper} {o : Oper} {a : Act} {Q : Exit → Act → World → Prop} {wr : World} (hgd : o.guard = none) (s y : Operand)
    (ho : o.op = .call { callee := .builtin .append, args := #[s, y], argTypes := #[26, 26] }) (A : Option Addr) (c : Nat) (gs : List Wh.Wk) (g : Nat) (hsz : g = wr.heap.size)
    (hs : a.eval s = .slice (some ⟨g, 0, none⟩) 0 0) (hx : a.eval y = .slice A gs.length c) (hg : Wks wr wr.heap.size A gs) (hn : gs.length ≤ 1000000000)
    (h : ∀ A' c' w', w'.ownsRow wr.heap.size 54 5 (.slice A' gs.length c') gs.length (flatW gs) → Below wr.heap.size wr w' → wpList Try.prog ops Q rest (a.put o.dst (.slice A' gs.length c')) w') :
    wpList Try.prog ops Q (o :: rest) a (wr.alloc (.cells #[] 54)) := by
  subst hsz
  obtain ⟨i0, hi0, hz0, hz1, hz2⟩ := info_parts5 walk_info
  have hb0 : Below wr.heap.size wr (wr.alloc (.cells #[] 54)) := (Below.refl _ _).alloc (Nat.le_refl _) _
  refine wpList_append_any _ hgd s y 26 ho wr.heap.size 54 i0 (.agg #[.int .i64 0, .int .i64 0, .int .i64 0, .int .i64 0, .int .i64 0]) 5 40 Try.underlying26 hi0 hz0 hz1 hz2 rfl (by decide) (.slice (some ⟨wr.heap.size, 0, none⟩) 0 0) 0 [] hs
    (World.ownsRow_made wr #[] 0 (Nat.le_refl _) (by simp [maxLen]) rfl) wr.heap.size A gs.length c (flatW gs) hx (hg.keep hb0).reads (flatW_one gs) (by simp only [maxLen]; omega) (by omega) (by simp) ?_
  intro v' w' hown hgr hat
  rw [Nat.zero_add, List.nil_append] at hown
  obtain ⟨A', c', rfl⟩ := own_form5 hown
  exact h A' c' w' hown (hb0.grown hgr (by simp) (fun j hj => by
    have : j = wr.heap.size := by simpa [Value.ownBlock] using hj.symm
    omega))
section
variable {F : Fence} {n : Nat} {P : Program} (w : World)
theorem wpIn_append_any {o : Oper} {a : Act} {K : Act → World → Prop} {Q : Exit → Act → World → Prop} (s x : Operand) (t : TypeId)
    (ho : o.op = .call { callee := .builtin .append, args := #[s, x], argTypes := #[t, t] })
    (base : Nat) (e : TypeId) (i : TypeInfo) (z : Value) (size bytes : Nat) (ht : P.underlying t = some (.slice e)) (hi : P.info? e = some i) (hz : i.zero = some z)
    (hsize : i.size = size) (hby : i.bytes = bytes) (hzs : z.cells.size = size) (hsz : 0 < size)
    (v : Value) (m0 : Nat) (xs : List Value) (hs : a.eval s = v) (hown : w.ownsRow base e size v m0 xs)
    (B : Nat) (A : Option Addr) (m c : Nat) (news : List Value) (hx : a.eval x = .slice A m c) (hr : Reads w B size A m news) (h1 : ∀ u ∈ news, u.oneCell' = true)
    (h63 : m0 + m ≤ maxLen) (hbytes : (m0 + m) * bytes ≤ 140737488355328) (hbase : base ≤ w.heap.size)
    (h : ∀ v' w', w'.ownsRow base e size v' (m0 + m) (xs ++ news) → w.grownBy w' v.ownBlock → (v'.ownBlock = v.ownBlock ∨ v'.ownBlock = some w.heap.size) → K (a.put o.dst v') w') : o.wpIn F n P a w K Q := by
  obtain ⟨v', w', hrun, h2, h3, h4⟩ := run_append_any (P := P) w base t o.type e i z size bytes ht hi hz hsize hby hzs hsz v m0 xs hown B A m c news hr h1 h63 hbytes hbase
  unfold Oper.wpIn
  refine ⟨fun f hf => ?_, ?_⟩
  · unfold Oper.about at hf
    rw [ho] at hf
    simp [resolve, Sem.run_pure] at hf
    cases hf
  · rw [Oper.semAt_eq _ _ _ (fun c hc => by rw [ho] at hc; cases hc)]
    unfold execOp
    simp only [ho, resolve, invoke, builtin, Sem.run_bind, Sem.run_pure, Result.andThen_ok, List.map_toArray, List.map_cons, List.map_nil, hs, hx, hrun]
    exact h v' w' h2 h3 h4
end
theorem put_ne {a : Act} {d t : Nat} (h : t ≠ d) (v : Value) : (a.put (some d) v).eval (.tmp t) = a.eval (.tmp t) := by
  show (a.tmps.setIfInBounds d v).getD t undef = a.tmps.getD t undef
  simp only [Array.getD_eq_getD_getElem?]
  rw [Array.getElem?_setIfInBounds_ne (fun e => h e.symm)]
theorem put_eq {a : Act} {d : Nat} (h : d < a.tmps.size) (v : Value) : (a.put (some d) v).eval (.tmp d) = v := by
  show (a.tmps.setIfInBounds d v).getD d undef = v
  simp only [Array.getD_eq_getD_getElem?]
  rw [Array.getElem?_setIfInBounds_self_of_lt h]
  rfl
theorem put_size (a : Act) (d : Nat) (v : Value) : (a.put (some d) v).tmps.size = a.tmps.size := Array.size_setIfInBounds ..
theorem put_comm {a : Act} {d e : Nat} (h : d ≠ e) (u v : Value) : (a.put (some d) u).put (some e) v = (a.put (some e) v).put (some d) u := by
  show ({ a with tmps := (a.tmps.setIfInBounds d u).setIfInBounds e v } : Act) = { a with tmps := (a.tmps.setIfInBounds e v).setIfInBounds d u }
  rw [Array.setIfInBounds_comm _ _ h]
/-- A slot that is filled once its operation has come. -/
def putIf (b : Bool) (d : Nat) (v : Value) (a : Act) : Act := if b then a.put (some d) v else a
theorem putIf_ne {a : Act} {d t : Nat} (h : t ≠ d) (b : Bool) (v : Value) : (putIf b d v a).eval (.tmp t) = a.eval (.tmp t) := by
  cases b
  · rfl
  · exact put_ne h v
theorem putIf_size (a : Act) (b : Bool) (d : Nat) (v : Value) : (putIf b d v a).tmps.size = a.tmps.size := by
  cases b
  · rfl
  · exact put_size a d v
theorem putIf_put {a : Act} {d e : Nat} (h : d ≠ e) (b : Bool) (u v : Value) : (putIf b d u a).put (some e) v = putIf b d u (a.put (some e) v) := by
  cases b
  · rfl
  · exact put_comm h u v
end Go.Proofs.Ytecmlakcpgkfbaa
