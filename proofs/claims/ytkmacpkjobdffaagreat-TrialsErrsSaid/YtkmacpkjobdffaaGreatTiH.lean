/- Trials: opening a file: what is owned, and eleven cells at once. -/
import Derived.Test.YtkmacpkjobdffaaGreatTiG
import Derived.Test.YtkmacpkjobdffaaGreatWhG
import Derived.Test.YtkmacpkjobdffaaGreatPairs
namespace Go.Proofs.YtkmacpkjobdffaaGreat
open Go.RowKit Go.Maps
theorem eleven_put {W : World} {B : Nat} {t : TypeId} {a0 a1 a2 a3 a4 a5 a6 a7 a8 a9 a10 : Value} (h : BoxS W B t #[a0, a1, a2, a3, a4, a5, a6, a7, a8, a9, a10]) (u0 u1 u2 u3 u4 u5 u6 u7 u8 u9 u10 : Value) :
    BoxS (((((((((((W.setCell ⟨B, 0, none⟩ u0).setCell ⟨B, 1, none⟩ u1).setCell ⟨B, 2, none⟩ u2).setCell ⟨B, 3, none⟩ u3).setCell ⟨B, 4, none⟩ u4).setCell ⟨B, 5, none⟩ u5).setCell ⟨B, 6, none⟩ u6).setCell ⟨B, 7, none⟩ u7).setCell ⟨B, 8, none⟩ u8).setCell ⟨B, 9, none⟩ u9).setCell ⟨B, 10, none⟩ u10) B t #[u0, u1, u2, u3, u4, u5, u6, u7, u8, u9, u10] := by
  have h0 : BoxS (W.setCell ⟨B, 0, none⟩ u0) B t #[u0, a1, a2, a3, a4, a5, a6, a7, a8, a9, a10] := h.put9 0 u0
  have h1 : BoxS ((W.setCell ⟨B, 0, none⟩ u0).setCell ⟨B, 1, none⟩ u1) B t #[u0, u1, a2, a3, a4, a5, a6, a7, a8, a9, a10] := h0.put9 1 u1
  have h2 : BoxS (((W.setCell ⟨B, 0, none⟩ u0).setCell ⟨B, 1, none⟩ u1).setCell ⟨B, 2, none⟩ u2) B t #[u0, u1, u2, a3, a4, a5, a6, a7, a8, a9, a10] := h1.put9 2 u2
  have h3 : BoxS ((((W.setCell ⟨B, 0, none⟩ u0).setCell ⟨B, 1, none⟩ u1).setCell ⟨B, 2, none⟩ u2).setCell ⟨B, 3, none⟩ u3) B t #[u0, u1, u2, u3, a4, a5, a6, a7, a8, a9, a10] := h2.put9 3 u3
  have h4 : BoxS (((((W.setCell ⟨B, 0, none⟩ u0).setCell ⟨B, 1, none⟩ u1).setCell ⟨B, 2, none⟩ u2).setCell ⟨B, 3, none⟩ u3).setCell ⟨B, 4, none⟩ u4) B t #[u0, u1, u2, u3, u4, a5, a6, a7, a8, a9, a10] := h3.put9 4 u4
  have h5 : BoxS ((((((W.setCell ⟨B, 0, none⟩ u0).setCell ⟨B, 1, none⟩ u1).setCell ⟨B, 2, none⟩ u2).setCell ⟨B, 3, none⟩ u3).setCell ⟨B, 4, none⟩ u4).setCell ⟨B, 5, none⟩ u5) B t #[u0, u1, u2, u3, u4, u5, a6, a7, a8, a9, a10] := h4.put9 5 u5
  have h6 : BoxS (((((((W.setCell ⟨B, 0, none⟩ u0).setCell ⟨B, 1, none⟩ u1).setCell ⟨B, 2, none⟩ u2).setCell ⟨B, 3, none⟩ u3).setCell ⟨B, 4, none⟩ u4).setCell ⟨B, 5, none⟩ u5).setCell ⟨B, 6, none⟩ u6) B t #[u0, u1, u2, u3, u4, u5, u6, a7, a8, a9, a10] := h5.put9 6 u6
  have h7 : BoxS ((((((((W.setCell ⟨B, 0, none⟩ u0).setCell ⟨B, 1, none⟩ u1).setCell ⟨B, 2, none⟩ u2).setCell ⟨B, 3, none⟩ u3).setCell ⟨B, 4, none⟩ u4).setCell ⟨B, 5, none⟩ u5).setCell ⟨B, 6, none⟩ u6).setCell ⟨B, 7, none⟩ u7) B t #[u0, u1, u2, u3, u4, u5, u6, u7, a8, a9, a10] := h6.put9 7 u7
  have h8 : BoxS (((((((((W.setCell ⟨B, 0, none⟩ u0).setCell ⟨B, 1, none⟩ u1).setCell ⟨B, 2, none⟩ u2).setCell ⟨B, 3, none⟩ u3).setCell ⟨B, 4, none⟩ u4).setCell ⟨B, 5, none⟩ u5).setCell ⟨B, 6, none⟩ u6).setCell ⟨B, 7, none⟩ u7).setCell ⟨B, 8, none⟩ u8) B t #[u0, u1, u2, u3, u4, u5, u6, u7, u8, a9, a10] := h7.put9 8 u8
  have h9 : BoxS ((((((((((W.setCell ⟨B, 0, none⟩ u0).setCell ⟨B, 1, none⟩ u1).setCell ⟨B, 2, none⟩ u2).setCell ⟨B, 3, none⟩ u3).setCell ⟨B, 4, none⟩ u4).setCell ⟨B, 5, none⟩ u5).setCell ⟨B, 6, none⟩ u6).setCell ⟨B, 7, none⟩ u7).setCell ⟨B, 8, none⟩ u8).setCell ⟨B, 9, none⟩ u9) B t #[u0, u1, u2, u3, u4, u5, u6, u7, u8, u9, a10] := h8.put9 9 u9
  have h10 : BoxS (((((((((((W.setCell ⟨B, 0, none⟩ u0).setCell ⟨B, 1, none⟩ u1).setCell ⟨B, 2, none⟩ u2).setCell ⟨B, 3, none⟩ u3).setCell ⟨B, 4, none⟩ u4).setCell ⟨B, 5, none⟩ u5).setCell ⟨B, 6, none⟩ u6).setCell ⟨B, 7, none⟩ u7).setCell ⟨B, 8, none⟩ u8).setCell ⟨B, 9, none⟩ u9).setCell ⟨B, 10, none⟩ u10) B t #[u0, u1, u2, u3, u4, u5, u6, u7, u8, u9, u10] := h9.put9 10 u10
  exact h10
theorem eleven_other {W : World} {B B' : Nat} {t : TypeId} {vs : Array Value} (h : BoxS W B t vs) (hne : B ≠ B') (u0 u1 u2 u3 u4 u5 u6 u7 u8 u9 u10 : Value) :
    BoxS (((((((((((W.setCell ⟨B', 0, none⟩ u0).setCell ⟨B', 1, none⟩ u1).setCell ⟨B', 2, none⟩ u2).setCell ⟨B', 3, none⟩ u3).setCell ⟨B', 4, none⟩ u4).setCell ⟨B', 5, none⟩ u5).setCell ⟨B', 6, none⟩ u6).setCell ⟨B', 7, none⟩ u7).setCell ⟨B', 8, none⟩ u8).setCell ⟨B', 9, none⟩ u9).setCell ⟨B', 10, none⟩ u10) B t vs := by
  have oth : ∀ {W : World} (_ : BoxS W B t vs) (i : Nat) (v : Value), BoxS (W.setCell ⟨B', i, none⟩ v) B t vs := fun h i v => (Below.heap_setCell _ _ _ B hne).trans h
  exact (oth (oth (oth (oth (oth (oth (oth (oth (oth (oth (oth h 0 u0) 1 u1) 2 u2) 3 u3) 4 u4) 5 u5) 6 u6) 7 u7) 8 u8) 9 u9) 10 u10)
theorem eleven_apart {b c B : Nat} (W : World) (h1 : b ≤ B) (h2 : B < c) (u0 u1 u2 u3 u4 u5 u6 u7 u8 u9 u10 : Value) : Apart b c W (((((((((((W.setCell ⟨B, 0, none⟩ u0).setCell ⟨B, 1, none⟩ u1).setCell ⟨B, 2, none⟩ u2).setCell ⟨B, 3, none⟩ u3).setCell ⟨B, 4, none⟩ u4).setCell ⟨B, 5, none⟩ u5).setCell ⟨B, 6, none⟩ u6).setCell ⟨B, 7, none⟩ u7).setCell ⟨B, 8, none⟩ u8).setCell ⟨B, 9, none⟩ u9).setCell ⟨B, 10, none⟩ u10) := by
  have a : ∀ (W : World) (i : Nat) (v : Value), Apart b c W (W.setCell ⟨B, i, none⟩ v) := fun W i v => Apart.setCell _ _ h1 h2 _
  exact (((((((((((a _ 0 u0).trans (a _ 1 u1)).trans (a _ 2 u2)).trans (a _ 3 u3)).trans (a _ 4 u4)).trans (a _ 5 u5)).trans (a _ 6 u6)).trans (a _ 7 u7)).trans (a _ 8 u8)).trans (a _ 9 u9)).trans (a _ 10 u10))
namespace Ti
theorem chk_ok {t : Tri} (h : chkV t = 0) : (0 ≤ t.gain ∧ t.gain ≤ 50) ∧ (0 ≤ t.d.skew ∧ t.d.skew ≤ 20) ∧ t.ts.length ≤ 6 ∧ ∀ k, k < t.ts.length → 0 ≤ (tstAt t.ts k).1 ∧ (tstAt t.ts k).1 ≤ 9000 := by
  unfold chkV at h
  by_cases hh : headB t = true
  · rw [if_pos hh] at h
    have hw : Wh.chkE (whl t []) = 0 := by
      by_cases h0 : walksTo t t.ts.length = 0
      · rwa [if_pos h0] at h
      · rw [if_neg h0] at h; exact absurd h h0
    have hok := Wh.ok_of (Wh.chkE_zero.1 hw)
    unfold headB at hh
    rw [Bool.and_eq_true, Bool.and_eq_true, inB_true, decide_eq_true_eq] at hh
    exact ⟨hh.1.1, ⟨hok.k1, hok.k2⟩, hh.1.2, areasTo_yes _ hh.2⟩
  · rw [if_neg hh] at h; omega
end Ti
/-- A row of maps of the call's own. -/
def OwnM (w : World) (B : Nat) (v : Value) (PU : Nat → List Ti.Gk) (k : Nat) : Prop :=
  ∃ bs : List Nat, bs.length = k ∧ w.ownsRow B 125 1 v k (bs.map fun b => Value.map (some b)) ∧ ∀ i b, bs[i]? = some b → B ≤ b ∧ SeenT w b (PU i)
theorem row_ne_map {w : World} {base size n b : Nat} {e : TypeId} {v : Value} {xs : List Value} {l : List Ti.Gk} (h : w.ownsRow base e size v n xs) (hS : SeenT w b l) : some b ≠ v.ownBlock := by
  obtain ⟨D, ⟨es, clock, hb, _⟩, _⟩ := hS
  rcases h.2 with ⟨rfl, _⟩ | ⟨g, cap, cur, rfl, _, hg, _⟩
  · simp [Value.ownBlock]
  · intro e
    simp [Value.ownBlock] at e
    subst e
    rw [hb] at hg
    cases hg
theorem row_ne_box {w : World} {base size n B : Nat} {e t : TypeId} {v : Value} {xs : List Value} {vs : Array Value} (h : w.ownsRow base e size v n xs) (hS : BoxS w B t vs) (hne : t ≠ e) : some B ≠ v.ownBlock := by
  rcases h.2 with ⟨rfl, _⟩ | ⟨g, cap, cur, rfl, _, hg, _⟩
  · simp [Value.ownBlock]
  · intro e'
    simp [Value.ownBlock] at e'
    subst e'
    rw [show w.heap[B]? = _ from hS] at hg
    cases hg
    exact hne rfl
theorem SeenT.lit {w w' : World} {b : Nat} {l : List Ti.Gk} (h : SeenT w b l) (hb : w'.heap[b]? = w.heap[b]?) : SeenT w' b l := by
  obtain ⟨D, ⟨es, clock, h1, h2⟩, h3⟩ := h
  exact ⟨D, ⟨es, clock, hb.trans h1, h2⟩, h3⟩
theorem OwnM.nil (w : World) (B : Nat) (PU : Nat → List Ti.Gk) : OwnM w B (.slice none 0 0) PU 0 := ⟨[], rfl, World.ownsRow_nil _ _ _ _, fun i b h => by simp at h⟩
theorem OwnM.keep {w w' : World} {B : Nat} {v : Value} {PU : Nat → List Ti.Gk} {k : Nat} (h : OwnM w B v PU k) (hb : ∀ i, B ≤ i → i < w.heap.size → w'.heap[i]? = w.heap[i]?) (hg : w'.heap.size ≥ w.heap.size) : OwnM w' B v PU k := by
  obtain ⟨bs, h1, h2, h3⟩ := h
  refine ⟨bs, h1, ⟨h2.1, ?_⟩, fun i b hi => ?_⟩
  · rcases h2.2 with h4 | ⟨g, cap, cur, a1, a2, a3, a4⟩
    · exact .inl h4
    · exact .inr ⟨g, cap, cur, a1, a2, (hb g a2 (Array.getElem?_eq_some_iff.1 a3).1).trans a3, a4⟩
  · obtain ⟨h4, h5⟩ := h3 i b hi
    exact ⟨h4, h5.lit (hb b h4 h5.lt)⟩
theorem OwnM.below {w w' : World} {B : Nat} {v : Value} {PU : Nat → List Ti.Gk} {k : Nat} (h : OwnM w B v PU k) (hb : Below w.heap.size w w') : OwnM w' B v PU k := h.keep (fun i _ hi => hb.block i hi) hb.size
theorem OwnM.set {w : World} {B C : Nat} {t : TypeId} {vs : Array Value} {v : Value} {PU : Nat → List Ti.Gk} {k : Nat} (h : OwnM w B v PU k) (hC : BoxS w C t vs) (hne : t ≠ 125) (i : Nat) (u : Value) : OwnM (w.setCell ⟨C, i, none⟩ u) B v PU k := by
  obtain ⟨bs, h1, h2, h3⟩ := h
  have hr := row_ne_box h2 hC hne
  refine ⟨bs, h1, ⟨h2.1, ?_⟩, fun j b hj => ?_⟩
  · rcases h2.2 with h4 | ⟨g, cap, cur, a1, a2, a3, a4⟩
    · exact .inl h4
    · refine .inr ⟨g, cap, cur, a1, a2, ?_, a4⟩
      refine (Below.heap_setCell _ _ _ g (fun e => hr ?_)).trans a3
      rw [a1]
      simp [Value.ownBlock]
      exact e.symm
  · obtain ⟨h4, h5⟩ := h3 j b hj
    refine ⟨h4, h5.lit (Below.heap_setCell _ _ _ b (fun e => ?_))⟩
    have e' : b = C := e
    subst e'
    obtain ⟨D, ⟨es, clock, hb, _⟩, _⟩ := h5
    rw [show w.heap[b]? = _ from hC] at hb
    cases hb
theorem OwnM.form {w : World} {B : Nat} {v : Value} {PU : Nat → List Ti.Gk} {k : Nat} (h : OwnM w B v PU k) : ∃ A c, v = .slice A k c := by
  obtain ⟨bs, h1, h2, h3⟩ := h
  exact owni_form h2
theorem OwnM.alw {w : World} {B : Nat} {AL : Option Addr} {c : Nat} {t : Ti.Tri} (h : OwnM w B (.slice AL t.ts.length c) (fun k => Ti.puts t (Ti.tstAt t.ts k)) t.ts.length) : Alw w w.heap.size AL t := fun hn => by
  obtain ⟨bs, h1, h2, h3⟩ := h
  rcases h2.2 with ⟨e, _⟩ | ⟨g, cap, cur, e, a2, a3, a4⟩
  · injection e with e1 e2; omega
  · have e1 : AL = some ⟨g, 0, none⟩ := by injection e
    subst e1
    refine ⟨g, 0, rfl, (Array.getElem?_eq_some_iff.1 a3).1, fun k hk => ?_⟩
    have hk' : k < bs.length := by omega
    obtain ⟨h4, h5⟩ := h3 k bs[k] (List.getElem?_eq_getElem hk')
    refine ⟨bs[k], h5.lt, ?_, h5⟩
    have := h2.cells (g := g) rfl k (.map (some bs[k])) (by rw [List.getElem?_map, List.getElem?_eq_getElem hk']; rfl)
    by_cases e0 : k = 0
    · subst e0; simpa [Addr.add] using this
    · simpa [Addr.add, e0] using this
theorem map_info : (Tryz.prog.info? 125).map (fun i => (i.zero, i.size, i.bytes)) = some (some (.map none), 1, 8) := by kernel_rfl
section
variable {F : Fence} {n : Nat} {P : Program} (w : World)
theorem wpIn_append_any {o : Oper} {a : Act} {K : Act → World → Prop} {Q : Exit → Act → World → Prop} (s x : Operand) (t : TypeId)
    (ho : o.op = .call { callee := .builtin .append, args := #[s, x], argTypes := #[t, t] })
    (base : Nat) (e : TypeId) (i : TypeInfo) (z : Value) (size bytes : Nat) (ht : P.underlying t = some (.slice e)) (hi : P.info? e = some i) (hz : i.zero = some z)
    (hsize : i.size = size) (hby : i.bytes = bytes) (hzs : z.cells.size = size) (hsz : 0 < size)
    (v : Value) (m0 : Nat) (xs : List Value) (hs : a.eval s = v) (hown : w.ownsRow base e size v m0 xs)
    (B : Nat) (A : Option Addr) (m c : Nat) (news : List Value) (hx : a.eval x = .slice A m c) (hr : Reads w B size A m news) (h1 : ∀ u ∈ news, u.oneCell' = true)
    (h63 : m0 + m ≤ maxLen) (hbytes : (m0 + m) * bytes ≤ 140737488355328) (hbase : base ≤ w.heap.size)
    (h : ∀ v' w', w'.ownsRow base e size v' (m0 + m) (xs ++ news) → w.grownBy w' v.ownBlock → (v'.ownBlock = v.ownBlock ∨ v'.ownBlock = some w.heap.size) → K (a.put o.dst v') w') : o.wpIn F n P a w K Q := by
  obtain ⟨v', w', hrun, h2, h3, h4⟩ := run_append_any (P := P) w base t o.type e i z size bytes ht hi hz hsize hby hzs hsz v m0 xs hown B A m c news hr h1 h63 hbytes hbase
  unfold Oper.wpIn
  refine ⟨fun f hf => ?_, ?_⟩
  · unfold Oper.about at hf
    rw [ho] at hf
    simp [resolve, Sem.run_pure] at hf
    cases hf
  · rw [Oper.semAt_eq _ _ _ (fun c hc => by rw [ho] at hc; cases hc)]
    unfold execOp
    simp only [ho, resolve, invoke, builtin, Sem.run_bind, Sem.run_pure, Result.andThen_ok, List.map_toArray, List.map_cons, List.map_nil, hs, hx, hrun]
    exact h v' w' h2 h3 h4
end
/-- 'f.allowed = append(f.allowed, m)'. -/
theorem wpIn_appm {F : Fence} {n : Nat} {o : Oper} {a : Act} {K : Act → World → Prop} {Q : Exit → Act → World → Prop} {wr : World} (s y : Operand)
    (ho : o.op = .call { callee := .builtin .append, args := #[s, y], argTypes := #[82, 82] }) (B : Nat) (v : Value) (PU : Nat → List Ti.Gk) (k : Nat) (hs : a.eval s = v) (hown : OwnM wr B v PU k)
    (b bk : Nat) (hx : a.eval y = .slice (some ⟨b, 0, none⟩) 1 1) (hb : BoxS wr b 125 #[.map (some bk)]) (hS : SeenT wr bk (PU k)) (hbk : B ≤ bk) (hk : k ≤ 1000) (hB : B ≤ wr.heap.size)
    (h : ∀ v' w', OwnM w' B v' PU (k + 1) → wr.grownBy w' v.ownBlock → K (a.put o.dst v') w') : o.wpIn F n Tryz.prog a wr K Q := by
  obtain ⟨i0, hi0, hz0, hz1, hz2⟩ := info_parts1w map_info
  obtain ⟨bs, h1, h2, h3⟩ := hown
  refine wpIn_append_any wr s y 82 ho B 125 i0 (.map none) 1 8 Tryz.underlying82 hi0 hz0 hz1 hz2 rfl (by decide) v k _ hs h2 wr.heap.size (some ⟨b, 0, none⟩) 1 1 [.map (some bk)] hx
    ⟨rfl, fun _ => ⟨_, rfl, hb.lt, fun j u hu => ?_⟩⟩ (fun u hu => ?_) (by simp only [maxLen]; omega) (by omega) hB ?_
  · rcases j with _ | j
    · obtain rfl : Value.map (some bk) = u := by simpa using hu
      exact hb.cell 0 rfl
    · simp at hu
  · obtain rfl : u = .map (some bk) := by simpa using hu
    rfl
  intro v' w' k1 k2 k3
  refine h v' w' ⟨bs ++ [bk], by rw [List.length_append, h1]; rfl, by rw [List.map_append]; exact k1, fun i b' hi => ?_⟩ k2
  by_cases hl : i < bs.length
  · rw [List.getElem?_append_left hl] at hi
    obtain ⟨h4, h5⟩ := h3 i b' hi
    exact ⟨h4, h5.lit (k2.block b' h5.lt (row_ne_map h2 h5))⟩
  · rw [List.getElem?_append_right (by omega)] at hi
    have e : i - bs.length = 0 := by
      by_cases e : i - bs.length = 0
      · exact e
      · rw [List.getElem?_eq_none (by simp; omega)] at hi; cases hi
    rw [e] at hi
    have hb' : bk = b' := by simpa using hi
    have hi' : i = k := by omega
    subst hb'
    subst hi'
    exact ⟨hbk, hS.lit (k2.block bk hS.lt (row_ne_map h2 hS))⟩
theorem boxS11 {W : World} {B : Nat} {t : TypeId} {a0 a1 a2 a3 a4 a5 a6 a7 a8 a9 a10 : Value} (H : BoxS W B t #[a0, a1, a2, a3, a4, a5, a6, a7, a8, a9, a10]) : ((W.cell? ⟨B, 0, none⟩ = some a0 ∧ W.cell? ⟨B, 1, none⟩ = some a1 ∧ W.cell? ⟨B, 2, none⟩ = some a2) ∧ W.cell? ⟨B, 3, none⟩ = some a3 ∧ W.cell? ⟨B, 4, none⟩ = some a4 ∧ W.cell? ⟨B, 5, none⟩ = some a5) ∧ (W.cell? ⟨B, 6, none⟩ = some a6 ∧ W.cell? ⟨B, 7, none⟩ = some a7 ∧ W.cell? ⟨B, 8, none⟩ = some a8) ∧ W.cell? ⟨B, 9, none⟩ = some a9 ∧ W.cell? ⟨B, 10, none⟩ = some a10 := ⟨⟨⟨H.cell 0 rfl, H.cell 1 rfl, H.cell 2 rfl⟩, H.cell 3 rfl, H.cell 4 rfl, H.cell 5 rfl⟩, ⟨H.cell 6 rfl, H.cell 7 rfl, H.cell 8 rfl⟩, H.cell 9 rfl, H.cell 10 rfl⟩
end Go.Proofs.YtkmacpkjobdffaaGreat
