/- Walks: the iterator over all elbows, by the program. -/
import Derived.Test.YtmjcdggmofohcaaWlM
import Derived.Test.YtmjcdggmofohcaaFarP
import Derived.ArgAppend
namespace Go.Proofs.Ytmjcdggmofohcaa
open Go.RowKit Go.Shelf
attribute [local go_sem] Oper.semAt_some
/-- Elbows, as they lie in memory. -/
structure Elb where
  A : Option Addr
  c : Nat
  es : List Int
def encEl (x : Elb) : Array Value := #[.slice x.A x.es.length x.c]
/-- A row of numbers that lies from a block on. -/
def Row (W : World) (c₀ : Nat) (v : Value) (L : List Int) : Prop :=
  (v = .slice none 0 0 ∧ L = []) ∨ ∃ b cap, v = .slice (some ⟨b, 0, none⟩) L.length cap ∧ L.length ≤ cap ∧ c₀ ≤ b ∧ b < W.heap.size ∧ ∀ k x, L[k]? = some x → W.cell? ⟨b, k, none⟩ = some (.int .i64 x)
theorem Row.nil (W : World) (c₀ : Nat) : Row W c₀ (.slice none 0 0) [] := .inl ⟨rfl, rfl⟩
theorem Row.of_own {W : World} {c₀ B : Nat} {v : Value} {L : List Int} (h : W.ownsRow B 3 1 v L.length (L.map (Value.int .i64))) (hB : c₀ ≤ B) : Row W c₀ v L := by
  rcases h.2 with ⟨e, h0⟩ | ⟨g, cap, cur, e, hb, hg, hcap, _⟩
  · exact .inl ⟨e, List.eq_nil_of_length_eq_zero h0⟩
  · refine .inr ⟨g, cap, e, hcap, by omega, ?_, fun k x hx => ?_⟩
    · rcases Nat.lt_or_ge g W.heap.size with h | h
      · exact h
      · rw [Array.getElem?_eq_none h] at hg; cases hg
    · have hk : k < L.length := (List.getElem?_eq_some_iff.1 hx).1
      subst e
      rw [h.cellAt k (by omega), List.getElem?_map, hx]
      rfl
theorem Row.apart {W W' : World} {n₀ c₀ : Nat} {v : Value} {L : List Int} (h : Row W c₀ v L) (hb : Apart n₀ c₀ W W') : Row W' c₀ v L := by
  rcases h with h | ⟨b, cap, e, hl, h1, h2, hc⟩
  · exact .inl h
  · refine .inr ⟨b, cap, e, hl, h1, Nat.lt_of_lt_of_le h2 hb.size, fun k x hx => ?_⟩
    exact (World.cell?_of_block (a := ⟨b, k, none⟩) (hb.block b h2 (.inr h1))).trans (hc k x hx)
theorem Row.ints {W : World} {c₀ : Nat} {v : Value} {L : List Int} (h : Row W c₀ v L) : Ints W W.heap.size v L := by
  rcases h with h | ⟨b, cap, e, hl, h1, h2, hc⟩
  · exact .inl h
  · exact .inr ⟨b, 0, cap, e, h2, fun k x hx => by rw [Nat.zero_add]; exact hc k x hx⟩
theorem Row.form {W : World} {c₀ : Nat} {v : Value} {L : List Int} (h : Row W c₀ v L) : ∃ A c, v = .slice A L.length c := by
  rcases h with ⟨rfl, rfl⟩ | ⟨b, cap, rfl, _⟩
  · exact ⟨none, 0, rfl⟩
  · exact ⟨_, cap, rfl⟩
/-- 'append(l[:n:n], x)' in a held region: a new row. -/
theorem wpIn_pushrow {F : Fence} {nF : Nat} {o : Oper} {a : Act} {K : Act → World → Prop} {Q : Exit → Act → World → Prop} {wr : World} (s y : Operand)
    (ho : o.op = .call { callee := .builtin .append, args := #[s, y], argTypes := #[35, 35] }) (x : Int) (ao : Option Addr) (L : List Int) (hs : a.eval s = .slice ao L.length L.length)
    (hrow : (ao = none ∧ L = []) ∨ ∃ b, ao = some ⟨b, 0, none⟩ ∧ b < wr.heap.size ∧ ∀ k x, L[k]? = some x → wr.cell? ⟨b, k, none⟩ = some (.int .i64 x))
    (hx : a.eval y = .slice (some ⟨wr.heap.size, 0, none⟩) 1 1) (hn : L.length ≤ 100000)
    (h : ∀ v' w', w'.ownsRow wr.heap.size 3 1 v' (L ++ [x]).length ((L ++ [x]).map (Value.int .i64)) → Below wr.heap.size wr w' → K (a.put o.dst v') w') :
    o.wpIn F nF Try.prog a (wr.alloc (.cells #[.int .i64 x] 3)) K Q := by
  obtain ⟨i0, hi0, hz0, hz1, hz2⟩ := info_parts1w int_info3
  have hnew : ∀ j u, ([Value.int .i64 x] : List Value)[j]? = some u → (wr.alloc (.cells #[.int .i64 x] 3)).cell? ((⟨wr.heap.size, 0, none⟩ : Addr).add j) = some u := fun j u hu => by
    rcases j with _ | j
    · have hu' : u = .int .i64 x := by simpa using hu.symm
      subst hu'
      show (wr.alloc _).cell? ⟨wr.heap.size, 0, none⟩ = _
      go_cell
    · simp at hu
  have hmap : (L ++ [x]).map (Value.int .i64) = L.map (Value.int .i64) ++ [.int .i64 x] := by rw [List.map_append]; rfl
  have hlen : (L ++ [x]).length = L.length + 1 := by rw [List.length_append]; rfl
  obtain ⟨v', w', hrun, h2, h3⟩ : ∃ v' w', (Builtin.append_ #[35, 35] o.type #[.slice ao L.length L.length, .slice (some ⟨wr.heap.size, 0, none⟩) 1 1]).run Try.prog (wr.alloc (.cells #[.int .i64 x] 3)) = .ok v' w' ∧ w'.ownsRow wr.heap.size 3 1 v' (L.length + 1) (L.map (Value.int .i64) ++ [.int .i64 x]) ∧ (wr.alloc (.cells #[.int .i64 x] 3)).grownBy w' none := by
    rcases hrow with ⟨rfl, rfl⟩ | ⟨b, rfl, hb, hc⟩
    · obtain ⟨v', w', hrun, h2, h3, _⟩ := run_append_any (P := Try.prog) (wr.alloc (.cells #[.int .i64 x] 3)) wr.heap.size 35 o.type 3 i0 (.int .i64 0) 1 8 Try.underlying35 hi0 hz0 hz1 hz2 rfl (by decide) (.slice none 0 0) 0 [] (World.ownsRow_nil _ _ _ _) (wr.heap.size + 1) (some ⟨wr.heap.size, 0, none⟩) 1 1 [.int .i64 x] ⟨rfl, fun _ => ⟨_, rfl, by simp, hnew⟩⟩ (by intro u hu; simp at hu; subst hu; rfl) (by decide) (by decide) (by simp)
      exact ⟨v', w', hrun, h2, h3⟩
    · obtain ⟨v', w', hrun, h2, h3⟩ := run_append_arg_grows (P := Try.prog) (wr.alloc (.cells #[.int .i64 x] 3)) 35 o.type 3 i0 (.int .i64 0) 1 8 Try.underlying35 hi0 hz0 hz1 hz2 rfl (by decide) ⟨b, 0, none⟩ L.length L.length (L.map (Value.int .i64)) (by simp) (fun j u hu => by
        rw [List.getElem?_map] at hu
        cases e : L[j]? with
        | none => rw [e] at hu; cases hu
        | some z =>
          rw [e] at hu
          simp at hu
          subst hu
          rw [Addr.add_lit, Nat.zero_add]
          exact (World.cell?_of_block (a := ⟨b, j, none⟩) (Below.heap_alloc wr _ b hb)).trans (hc j z e)) ⟨wr.heap.size, 0, none⟩ 1 1 [.int .i64 x] rfl hnew (by omega) (by simp only [maxLen]; omega) (by omega)
      exact ⟨v', w', hrun, h2.mono (by simp), h3⟩
  have hr : (execOp a.eval o).run Try.prog (wr.alloc (.cells #[.int .i64 x] 3)) = .ok (.value v') w' := by
    unfold execOp
    simp only [ho, resolve, invoke, builtin, Sem.run_bind, Sem.run_pure, Result.andThen_ok, List.map_toArray, List.map_cons, List.map_nil, hs, hx, hrun]
  refine ⟨fun f hf => ?_, ?_⟩
  · unfold Oper.about at hf
    simp only [ho, resolve, Sem.run_pure] at hf
    cases hf
  · rw [Oper.semAt_eq _ _ _ (fun c hc => by rw [ho] at hc; cases hc), hr]
    exact h v' w' (by rw [hlen, hmap]; exact h2) (((Below.refl wr.heap.size wr).alloc (Nat.le_refl _) _).grown h3 (by simp) (fun j hj => by cases hj))
/-- What goOn leaves. -/
def GoPost (n₀ c₀ : Nat) (J Jx : List Elb → World → Prop) (G : List (List Int)) (pre : List Elb) (w : World) (e : Ending) (w' : World) : Prop :=
  (e = .returned (.bool true) ∧ Apart n₀ c₀ w w' ∧ ∃ xs : List Elb, xs.map Elb.es = G ∧ J (pre ++ xs) w') ∨ (e = .returned (.bool false) ∧ ∃ xs : List Elb, xs.map Elb.es <+: G ∧ Jx (pre ++ xs) w')
namespace Wl
theorem sum_le {α : Type} (f : α → Nat) (m : Nat) : ∀ l : List α, (∀ x ∈ l, f x ≤ m) → (l.map f).sum ≤ l.length * m
  | [], _ => by simp
  | x :: l, h => by
    have h1 := h x List.mem_cons_self
    have h2 := sum_le f m l (fun y hy => h y (List.mem_cons_of_mem _ hy))
    rw [List.map_cons, List.sum_cons, List.length_cons, Nat.add_mul]
    omega
theorem reachL_len (t : Trk) (a : Pt) : (reachL t a).length ≤ t.ps.length := by
  unfold reachL
  rw [List.length_map]
  exact Nat.le_trans (List.length_filter_le _ _) (by rw [List.length_range]; exact Nat.le_refl _)
theorem goL_len (t : Trk) (ws : List Pt) (h0 : 1 ≤ t.ps.length) : ∀ k pl, (goL t ws k pl).length ≤ t.ps.length ^ k
  | 0, pl => by
    show (if nearB t (lastV pl) (esAt pl 0) = true then [pl] else []).length ≤ _
    split <;> simp
  | k + 1, pl => by
    show ((reachL t (ptAt ws pl.length)).flatMap (fun p => if 0 < pl.length ∧ nearB t (lastV pl) p = false then [] else goL t ws k (pl ++ [p]))).length ≤ _
    rw [List.length_flatMap]
    refine Nat.le_trans (sum_le _ (t.ps.length ^ k) _ (fun p _ => ?_)) ?_
    · split
      · simp
      · exact goL_len t ws h0 k (pl ++ [p])
    · rw [Nat.pow_succ, Nat.mul_comm (t.ps.length ^ k)]
      exact Nat.mul_le_mul_right _ (reachL_len _ _)
theorem goL_bd {t : Trk} {ws : List Pt} (ht : trkB t = true) (hw : ptsB ws = true) (k : Nat) (pl : List Int) (hk : k ≤ ws.length) : (goL t ws k pl).length ≤ 16777216 := by
  obtain ⟨_, _, h1, h2⟩ := trk_parts ht
  have h3 := (pts_all hw).2
  refine Nat.le_trans (goL_len t ws h1 k pl) ?_
  refine Nat.le_trans (Nat.pow_le_pow_left h2 k) ?_
  exact Nat.le_trans (Nat.pow_le_pow_right (by omega) (Nat.le_trans hk h3)) (by decide)
/-- One place more: what is yielded behind it. -/
def goP (t : Trk) (ws : List Pt) (k : Nat) (pl : List Int) (p : Int) : List (List Int) := if 0 < pl.length ∧ nearB t (lastV pl) p = false then [] else goL t ws k (pl ++ [p])
def goTo (t : Trk) (ws : List Pt) (k : Nat) (pl : List Int) (RL : List Int) (i : Nat) : List (List Int) := (RL.take i).flatMap (goP t ws k pl)
theorem goTo_succ (t : Trk) (ws : List Pt) (k : Nat) (pl RL : List Int) {i : Nat} {p : Int} (h : RL[i]? = some p) : goTo t ws k pl RL (i + 1) = goTo t ws k pl RL i ++ goP t ws k pl p := by
  unfold goTo
  rw [List.take_add_one, h, List.flatMap_append]
  simp
theorem goTo_all (t : Trk) (ws : List Pt) (k : Nat) (pl : List Int) : goTo t ws k pl (reachL t (ptAt ws pl.length)) (reachL t (ptAt ws pl.length)).length = goL t ws (k + 1) pl := by
  unfold goTo
  rw [List.take_length]
  rfl
theorem goTo_pre (t : Trk) (ws : List Pt) (k : Nat) (pl RL : List Int) (i : Nat) : goTo t ws k pl RL i <+: goTo t ws k pl RL RL.length := by
  unfold goTo
  rw [List.take_length]
  have h := List.take_append_drop i RL
  refine ⟨(RL.drop i).flatMap (goP t ws k pl), ?_⟩
  rw [← List.flatMap_append, h]
end Wl
set_option maxRecDepth 100000 in
set_option maxHeartbeats 8000000 in
theorem goOn_leaf (t : Wl.Trk) (ws : List Wl.Pt) (A Aw : Option Addr) (c cw : Nat) (ht : Wl.trkB t = true) (hw : Wl.ptsB ws = true) (n₀ c₀ l : Nat) (J Jx : List Elb → World → Prop) (hJ : OwnFrom c₀ J) (hJx : OwnFrom c₀ Jx)
    (hY : ∀ m pre (x : Elb) W1, J pre W1 → pre.length < 20000000 → Row W1 c₀ (.slice x.A x.es.length x.c) x.es → (x.es.length = ws.length ∧ ∀ p ∈ x.es, 0 ≤ p ∧ p < t.ps.length) → YieldAt Fence.wide m Try.prog l (encEl x) W1 (farYield n₀ c₀ J Jx pre x W1))
    (w : World) (hn : n₀ ≤ c₀) (hcw : c₀ ≤ w.heap.size) (hP : Prs w n₀ A t.ps) (hQ : Prs w n₀ Aw ws) (v : Value) (pl : List Int) (hv : Row w c₀ v pl) (hpl : ∀ p ∈ pl, 0 ≤ p ∧ p < t.ps.length) (pre : List Elb) (h0 : J pre w) (hk : pl.length = ws.length) (hbd : pre.length + (Wl.goL t ws 0 pl).length ≤ 20000000) :
    Calls Try.prog 87 #[.agg (mcV t A c Aw ws.length cw), .func (.yield l) #[] #[], v] w (GoPost n₀ c₀ J Jx (Wl.goL t ws 0 pl) pre w) := by
  obtain ⟨hp8, hc3, hn8⟩ := Wl.trk_parts ht
  have hw1 : 1 ≤ ws.length ∧ ws.length ≤ 8 := by
    have := hw
    unfold Wl.ptsB inB at this
    simp only [Bool.and_eq_true, decide_eq_true_eq] at this
    omega
  rcases hv with ⟨_, e⟩ | ⟨bl, cap, rfl, hcap, hb1, hb2, hcc⟩
  · subst e; simp at hk; omega
  have HV : Hid (Row w c₀ (.slice (some ⟨bl, 0, none⟩) pl.length cap) pl) := .inr ⟨bl, cap, rfl, hcap, hb1, hb2, hcc⟩
  obtain ⟨q, hq⟩ : ∃ q : Nat, pl.length = q + 1 := ⟨pl.length - 1, by omega⟩
  have HK : Hid (pl.length = ws.length ∧ ∀ p ∈ pl, 0 ≤ p ∧ p < t.ps.length) := ⟨hk, hpl⟩
  have hz0 : pl[0]? = some (Wl.esAt pl 0) := by unfold Wl.esAt; rw [List.getElem?_eq_getElem (by omega)]; rfl
  have hzq : pl[q]? = some (Wl.lastV pl) := by unfold Wl.lastV Wl.esAt; rw [hq, Nat.add_sub_cancel, List.getElem?_eq_getElem (by omega)]; rfl
  have c0 := hcc 0 _ hz0
  have cq := hcc q _ hzq
  have i0 := hpl _ (List.mem_of_getElem? hz0)
  have iq := hpl _ (List.mem_of_getElem? hzq)
  have HN0 : Hid (∀ W, Calls Try.prog 100 #[.agg (mcV t A c Aw ws.length cw), .int .i64 (Wl.lastV pl), .int .i64 (Wl.esAt pl 0)] W fun e w' => e = .returned (.bool (Wl.nearB t (Wl.lastV pl) (Wl.esAt pl 0))) ∧ Below W.heap.size W w') := fun W => nearW_any t A c Aw ws.length cw _ _ (by omega) (by omega) (by omega) W
  have HG0 : Hid (Wl.goL t ws 0 pl = if Wl.nearB t (Wl.lastV pl) (Wl.esAt pl 0) then [pl] else []) := rfl
  generalize Wl.goL t ws 0 pl = G at *
  generalize Wl.nearB t (Wl.lastV pl) (Wl.esAt pl 0) = nb at *
  generalize Wl.lastV pl = vq at *
  generalize Wl.esAt pl 0 = v0 at *
  obtain ⟨ps, cl, lo, hi⟩ := t
  unfold mcV at *
  dsimp only at *
  have H0 := Lib.hid h0
  have hwq : IntKind.i64.wrap ((pl.length : Int) - 1) = (q : Int) := by rw [hq]; exact (IntWalk.i64_in _ (by omega)).trans (by omega)
  have hkb : ((pl.length : Int) == (ws.length : Int)) = true := by rw [hk]; simp
  have hql : q < pl.length := by omega
  have hp0 : 0 < pl.length := by omega
  have hqi : (q : Int) < pl.length := by omega
  have hpi : (0 : Int) < pl.length := by omega
  have d1 : decide ((q : Int) < 0) = false := decide_eq_false (by omega)
  have d2 : decide ((pl.length : Int) ≤ (q : Int)) = false := decide_eq_false (by omega)
  have d3 : decide (pl.length ≤ q) = false := decide_eq_false (by omega)
  have d4 : decide ((pl.length : Int) ≤ 0) = false := decide_eq_false (by omega)
  have d5 : decide (pl.length ≤ 0) = false := decide_eq_false (by omega)
  have hmo : Try.prog.follows .mixedOrders = true := by kernel_rfl
  clear hP hQ hw ht hpl hz0 hzq hcc h0 hp8 hc3 i0 iq hk hq
  refine (callsIn_wide (n := 8)).1 ?_
  refine callsIn_of_wp Try.func87 rfl trivial ?_ rfl
  simp only [Try.ntmps87, List.size_toArray, List.length_cons, List.length_nil, Nat.reduceAdd, Nat.reduceSub, Array.replicate_succ, Array.replicate_zero, List.push_toArray, List.append_toArray, List.nil_append, List.cons_append]
  gi_wp2
  have bM := BoxS.new w 70 #[.slice A ps.length c, .int .i64 cl, .int .i64 lo, .int .i64 hi, .slice Aw ws.length cw]
  have hB1 : Below w.heap.size w (w.alloc (.cells #[.slice A ps.length c, .int .i64 cl, .int .i64 lo, .int .i64 hi, .slice Aw ws.length cw] 70)) := by (repeat' (first | (with_reducible exact Below.refl _ _) | (with_reducible assumption) | (with_reducible refine Below.alloc ?_ ?_ _) | (with_reducible refine Below.drew ?_) | (with_reducible refine Below.setCell ?_ ?_ _) | go_size | (exact (by simp)) | omega))
  generalize World.alloc w _ = w1 at *
  have s4 := bM.cell 4 rfl
  have lM := bM.lt
  try gi_wp2
  have q0 : Below w1.heap.size w1 w1.drew := (Below.refl _ _).drew
  have KC : Hid (∀ W', Below w1.heap.size w1 W' → (W'.cell? ⟨w.heap.size, 0, none⟩ = some (.slice A ps.length c) ∧ W'.cell? ⟨w.heap.size, 1, none⟩ = some (.int .i64 cl) ∧ W'.cell? ⟨w.heap.size, 2, none⟩ = some (.int .i64 lo) ∧ W'.cell? ⟨w.heap.size, 3, none⟩ = some (.int .i64 hi) ∧ W'.cell? ⟨w.heap.size, 4, none⟩ = some (.slice Aw ws.length cw)) ∧ W'.cell? ⟨bl, 0, none⟩ = some (.int .i64 v0) ∧ W'.cell? ⟨bl, q, none⟩ = some (.int .i64 vq)) := fun W' h => by
    have h2 := hB1.trans (h.mono hB1.size)
    have b := bM.below h
    exact ⟨⟨b.cell 0 rfl, b.cell 1 rfl, b.cell 2 rfl, b.cell 3 rfl, b.cell 4 rfl⟩, (h2.cell (p := ⟨bl, _, none⟩) hb2).trans c0, (h2.cell (p := ⟨bl, _, none⟩) hb2).trans cq⟩
  clear c0 cq s4 hkb
  cases nb with
  | false =>
    have HG : Hid (G = []) := HG0.out
    have HN := HN0
    clear HG0 HN0 hY
    refine wpIn_region_held (fun W' => Below w1.heap.size w1 W') 30 hmo ?_
    refine wpHeldIn_take (i := 0) (v := ?_) (plain_of (by kernel_rfl)) rfl (by kernel_rfl) (fun _ _ _ h => h) (yieldsSoIn_of (by kernel_rfl) ?_ (fun _ => rfl)) q0 ?_; rotate_left; focus (intro wq hw; have kq := KC.out wq hw; clear hw; go_simp; try (with_reducible rfl))
    refine wpHeldIn_take (i := 1) (v := ?_) (plain_of (by kernel_rfl)) rfl (by kernel_rfl) (fun _ _ _ h => h) (yieldsSoIn_of (by kernel_rfl) ?_ (fun _ => rfl)) q0 ?_; rotate_left; focus (intro wq hw; clear hw; go_simp; try (with_reducible rfl))
    refine wpHeldIn_take (i := 2) (v := ?_) (plain_of (by kernel_rfl)) rfl (by kernel_rfl) (fun _ _ _ h => h) (yieldsSoIn_of (by kernel_rfl) ?_ (fun _ => rfl)) q0 ?_; rotate_left; focus (intro wq hw; clear hw; go_simp; try (with_reducible rfl))
    refine wpHeldIn_take (i := 3) (v := ?_) (plain_of (by kernel_rfl)) rfl (by kernel_rfl) (fun _ _ _ h => h) (yieldsSoIn_of (by kernel_rfl) ?_ (fun _ => rfl)) q0 ?_; rotate_left; focus (intro wq hw; clear hw; go_simp; try (with_reducible rfl))
    refine wpHeldIn_take (i := 4) (v := ?_) (plain_of (by kernel_rfl)) rfl (by kernel_rfl) (fun _ _ _ h => h) (yieldsSoIn_of (by kernel_rfl) ?_ (fun _ => rfl)) q0 ?_; rotate_left; focus (intro wq hw; clear hw; go_simp; try (with_reducible rfl))
    refine wpHeldIn_take (i := 5) (v := ?_) (plain_of (by kernel_rfl)) rfl (by kernel_rfl) (fun _ _ _ h => h) (yieldsSoIn_of (by kernel_rfl) ?_ (fun _ => rfl)) q0 ?_; rotate_left; focus (intro wq hw; have kq := KC.out wq hw; clear hw; go_simp; try (with_reducible rfl))
    refine wpHeldIn_take (i := 6) (v := ?_) (plain_of (by kernel_rfl)) rfl (by kernel_rfl) (fun _ _ _ h => h) (yieldsSoIn_of (by kernel_rfl) ?_ (fun _ => rfl)) q0 ?_; rotate_left; focus (intro wq hw; clear hw; go_simp; try (with_reducible rfl))
    refine wpHeldIn_take (i := 7) (v := ?_) (plain_of (by kernel_rfl)) rfl (by kernel_rfl) (fun _ _ _ h => h) (yieldsSoIn_of (by kernel_rfl) ?_ (fun _ => rfl)) q0 ?_; rotate_left; focus (intro wq hw; clear hw; go_simp; try (with_reducible rfl))
    refine wpHeldIn_take (i := 8) (v := ?_) (plain_of (by kernel_rfl)) rfl (by kernel_rfl) (fun _ _ _ h => h) (yieldsSoIn_of (by kernel_rfl) ?_ (fun _ => rfl)) q0 ?_; rotate_left; focus (intro wq hw; have kq := KC.out wq hw; clear hw; go_simp; try (with_reducible rfl))
    refine wpHeldIn_one (i := 9) (by kernel_rfl) (by kernel_rfl) rfl (by kernel_rfl) (fun K1 hK1 => ?_)
    go_simp
    refine ⟨trivial, (callsIn_wide.2 (HN.out _)).mono ?_⟩
    rintro e w2 ⟨rfl, hb2⟩
    have q1 := q0.trans (hb2.mono q0.size)
    refine hK1 _ _ q1 ?_
    refine wpHeldIn_take (i := 10) (v := ?_) (plain_of (by kernel_rfl)) rfl (by kernel_rfl) (fun _ _ _ h => h) (yieldsSoIn_of (by kernel_rfl) ?_ (fun _ => rfl)) q1 ?_; rotate_left; focus (intro wq hw; clear hw; go_simp; try (with_reducible rfl))
    refine wpHeldIn_take (i := 11) (v := ?_) (plain_of (by kernel_rfl)) rfl (by kernel_rfl) (fun _ _ _ h => h) (yieldsSoIn_of (by kernel_rfl) ?_ (fun _ => rfl)) q1 ?_; rotate_left; focus (intro wq hw; clear hw; go_simp; try (with_reducible rfl))
    refine wpHeldIn_take (i := 12) (plain_of (by kernel_rfl)) rfl (by kernel_rfl) (fun _ _ _ h => h) (yieldsSoIn_skip (by kernel_rfl) (fun _ => trivial)) q1 ?_
    refine wpHeldIn_take (i := 13) (plain_of (by kernel_rfl)) rfl (by kernel_rfl) (fun _ _ _ h => h) (yieldsSoIn_skip (by kernel_rfl) (fun _ => trivial)) q1 ?_
    refine wpHeldIn_take (i := 14) (plain_of (by kernel_rfl)) rfl (by kernel_rfl) (fun _ _ _ h => h) (yieldsSoIn_skip (by kernel_rfl) (fun _ => trivial)) q1 ?_
    refine wpHeldIn_take (i := 15) (v := ?_) (plain_of (by kernel_rfl)) rfl (by kernel_rfl) (fun _ _ _ h => h) (yieldsSoIn_of (by kernel_rfl) ?_ (fun _ => rfl)) q1 ?_; rotate_left; focus (intro wq hw; clear hw; go_simp; try (with_reducible rfl))
    refine wpHeldIn_take (i := 16) (v := ?_) (plain_of (by kernel_rfl)) rfl (by kernel_rfl) (fun _ _ _ h => h) (yieldsSoIn_of (by kernel_rfl) ?_ (fun _ => rfl)) q1 ?_; rotate_left; focus (intro wq hw; clear hw; go_simp; try (with_reducible rfl))
    refine wpHeldIn_done (by kernel_rfl) ?_ _
    go_simp
    have hA1 : Apart n₀ c₀ w w2 := Apart.of_below (hB1.trans (q1.mono hB1.size))
    have hJ1 := ownFrom_at hJ H0.out (hB1.trans (q1.mono hB1.size))
    gi_wp2
    refine bodyPost_ret (v := .bool true) (by simp [results, Try.results87, go_sem]) rfl ?_
    exact .inl ⟨rfl, hA1, [], by rw [HG.out]; rfl, by rw [List.append_nil]; exact hJ1⟩
  | true =>
    have HG : Hid (G = [pl]) := HG0.out
    have hlt : pre.length < 20000000 := by rw [HG.out] at hbd; simp at hbd; omega
    have HN := HN0
    clear HG0 HN0
    refine wpIn_region_held (fun W' => Below w1.heap.size w1 W') 14 hmo ?_
    refine wpHeldIn_take (i := 0) (v := ?_) (plain_of (by kernel_rfl)) rfl (by kernel_rfl) (fun _ _ _ h => h) (yieldsSoIn_of (by kernel_rfl) ?_ (fun _ => rfl)) q0 ?_; rotate_left; focus (intro wq hw; have kq := KC.out wq hw; clear hw; go_simp; try (with_reducible rfl))
    refine wpHeldIn_take (i := 1) (v := ?_) (plain_of (by kernel_rfl)) rfl (by kernel_rfl) (fun _ _ _ h => h) (yieldsSoIn_of (by kernel_rfl) ?_ (fun _ => rfl)) q0 ?_; rotate_left; focus (intro wq hw; clear hw; go_simp; try (with_reducible rfl))
    refine wpHeldIn_take (i := 2) (v := ?_) (plain_of (by kernel_rfl)) rfl (by kernel_rfl) (fun _ _ _ h => h) (yieldsSoIn_of (by kernel_rfl) ?_ (fun _ => rfl)) q0 ?_; rotate_left; focus (intro wq hw; clear hw; go_simp; try (with_reducible rfl))
    refine wpHeldIn_take (i := 3) (v := ?_) (plain_of (by kernel_rfl)) rfl (by kernel_rfl) (fun _ _ _ h => h) (yieldsSoIn_of (by kernel_rfl) ?_ (fun _ => rfl)) q0 ?_; rotate_left; focus (intro wq hw; clear hw; go_simp; try (with_reducible rfl))
    refine wpHeldIn_take (i := 4) (v := ?_) (plain_of (by kernel_rfl)) rfl (by kernel_rfl) (fun _ _ _ h => h) (yieldsSoIn_of (by kernel_rfl) ?_ (fun _ => rfl)) q0 ?_; rotate_left; focus (intro wq hw; clear hw; go_simp; try (with_reducible rfl))
    refine wpHeldIn_take (i := 5) (v := ?_) (plain_of (by kernel_rfl)) rfl (by kernel_rfl) (fun _ _ _ h => h) (yieldsSoIn_of (by kernel_rfl) ?_ (fun _ => rfl)) q0 ?_; rotate_left; focus (intro wq hw; have kq := KC.out wq hw; clear hw; go_simp; try (with_reducible rfl))
    refine wpHeldIn_take (i := 6) (v := ?_) (plain_of (by kernel_rfl)) rfl (by kernel_rfl) (fun _ _ _ h => h) (yieldsSoIn_of (by kernel_rfl) ?_ (fun _ => rfl)) q0 ?_; rotate_left; focus (intro wq hw; clear hw; go_simp; try (with_reducible rfl))
    refine wpHeldIn_take (i := 7) (v := ?_) (plain_of (by kernel_rfl)) rfl (by kernel_rfl) (fun _ _ _ h => h) (yieldsSoIn_of (by kernel_rfl) ?_ (fun _ => rfl)) q0 ?_; rotate_left; focus (intro wq hw; clear hw; go_simp; try (with_reducible rfl))
    refine wpHeldIn_take (i := 8) (v := ?_) (plain_of (by kernel_rfl)) rfl (by kernel_rfl) (fun _ _ _ h => h) (yieldsSoIn_of (by kernel_rfl) ?_ (fun _ => rfl)) q0 ?_; rotate_left; focus (intro wq hw; have kq := KC.out wq hw; clear hw; go_simp; try (with_reducible rfl))
    refine wpHeldIn_one (i := 9) (by kernel_rfl) (by kernel_rfl) rfl (by kernel_rfl) (fun K1 hK1 => ?_)
    go_simp
    refine ⟨trivial, (callsIn_wide.2 (HN.out _)).mono ?_⟩
    rintro e w2 ⟨rfl, hb2⟩
    have q1 := q0.trans (hb2.mono q0.size)
    refine hK1 _ _ q1 ?_
    refine wpHeldIn_take (i := 10) (v := ?_) (plain_of (by kernel_rfl)) rfl (by kernel_rfl) (fun _ _ _ h => h) (yieldsSoIn_of (by kernel_rfl) ?_ (fun _ => rfl)) q1 ?_; rotate_left; focus (intro wq hw; clear hw; go_simp; try (with_reducible rfl))
    refine wpHeldIn_take (i := 11) (v := ?_) (plain_of (by kernel_rfl)) rfl (by kernel_rfl) (fun _ _ _ h => h) (yieldsSoIn_of (by kernel_rfl) ?_ (fun _ => rfl)) q1 ?_; rotate_left; focus (intro wq hw; clear hw; go_simp; try (with_reducible rfl))
    refine wpHeldIn_take (i := 12) (v := ?_) (plain_of (by kernel_rfl)) rfl (by kernel_rfl) (fun _ _ _ h => h) (yieldsSoIn_of (by kernel_rfl) ?_ (fun _ => rfl)) q1 ?_; rotate_left; focus (intro wq hw; clear hw; go_simp; try (with_reducible rfl))
    refine wpHeldIn_take (i := 13) (v := ?_) (plain_of (by kernel_rfl)) rfl (by kernel_rfl) (fun _ _ _ h => h) (yieldsSoIn_of (by kernel_rfl) ?_ (fun _ => rfl)) q1 ?_; rotate_left; focus (intro wq hw; clear hw; go_simp; try (with_reducible rfl))
    refine wpHeldIn_last (by kernel_rfl) rfl (by kernel_rfl) (fun K2 hK2 => ?_)
    have hBw : Below w.heap.size w w2 := hB1.trans (q1.mono hB1.size)
    have hA1 : Apart n₀ c₀ w w2 := Apart.of_below hBw
    have hJ1 := ownFrom_at hJ H0.out hBw
    have hv1 := HV.out.apart hA1
    obtain ⟨fn, tmps, assign, body, hy, hR⟩ := hY 7 pre ⟨some ⟨bl, 0, none⟩, cap, pl⟩ w2 hJ1 hlt hv1 HK.out
    unfold encEl at hy
    dsimp only at hy
    have HR := Lib.hid hR
    clear hR hv1
    go_simp
    refine RoundIn.mono (show RoundIn Fence.wide 7 _ l fn tmps assign body w2 _ from HR.out) ?_
    rintro e w3 (⟨rfl, hJ3, hk3⟩ | ⟨rfl, hJx3, hk3⟩)
    · refine hK2 _ _ ?_
      refine wpHeldIn_take (i := 15) (v := ?_) (plain_of (by kernel_rfl)) rfl (by kernel_rfl) (fun _ _ _ h => h) (yieldsSoIn_of (by kernel_rfl) ?_ (fun _ => rfl)) trivial ?_; rotate_left; focus (intro w _; go_simp; try (with_reducible rfl))
      refine wpHeldIn_take (i := 16) (v := ?_) (plain_of (by kernel_rfl)) rfl (by kernel_rfl) (fun _ _ _ h => h) (yieldsSoIn_of (by kernel_rfl) ?_ (fun _ => rfl)) trivial ?_; rotate_left; focus (intro w _; go_simp; try (with_reducible rfl))
      refine wpHeldIn_done (by kernel_rfl) ?_ _
      gi_wp2
      refine bodyPost_ret (v := .bool true) (by simp [results, Try.results87, go_sem]) rfl ?_
      exact .inl ⟨rfl, hA1.trans hk3, [⟨some ⟨bl, 0, none⟩, cap, pl⟩], by rw [HG.out]; rfl, hJ3⟩
    · refine hK2 _ _ ?_
      refine wpHeldIn_take (i := 15) (v := ?_) (plain_of (by kernel_rfl)) rfl (by kernel_rfl) (fun _ _ _ h => h) (yieldsSoIn_of (by kernel_rfl) ?_ (fun _ => rfl)) trivial ?_; rotate_left; focus (intro w _; go_simp; try (with_reducible rfl))
      refine wpHeldIn_take (i := 16) (v := ?_) (plain_of (by kernel_rfl)) rfl (by kernel_rfl) (fun _ _ _ h => h) (yieldsSoIn_of (by kernel_rfl) ?_ (fun _ => rfl)) trivial ?_; rotate_left; focus (intro w _; go_simp; try (with_reducible rfl))
      refine wpHeldIn_done (by kernel_rfl) ?_ _
      gi_wp2
      refine bodyPost_ret (v := .bool false) (by simp [results, Try.results87, go_sem]) rfl ?_
      exact .inr ⟨rfl, [⟨some ⟨bl, 0, none⟩, cap, pl⟩], by rw [HG.out]; exact List.prefix_refl _, hJx3⟩
end Go.Proofs.Ytmjcdggmofohcaa
