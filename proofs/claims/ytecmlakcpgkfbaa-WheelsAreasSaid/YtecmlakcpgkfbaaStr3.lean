/- Wheels: the walks that are right in no truth. -/
import Derived.Test.YtecmlakcpgkfbaaAr3
import Derived.Scope
namespace Go.Proofs.Ytecmlakcpgkfbaa
open Go.RowKit Go.Shelf
attribute [local go_sem] Oper.semAt_some
theorem own_obj {β : Type} {B D : Nat} (o : Obj) (hD : D < B) : OwnFrom B (fun (_ : β) W => W.heap[D]? = some o) := fun s X Y row hs hg hr => by
  have hlt : D < X.heap.size := (Array.getElem?_eq_some_iff.1 hs).1
  exact (hg.block D hlt (fun e => by have := (hr D e.symm).1; omega)).trans hs
theorem own_row {β : Type} {B NB : Nat} {ty : TypeId} {size : Nat} {v : Value} {n : Nat} {xs : List Value} (hv : ∀ g, v.ownBlock = some g → g < B) : OwnFrom B (fun (_ : β) W => W.ownsRow NB ty size v n xs) := fun s X Y row hs hg hr => by
  have h : X.ownsRow NB ty size v n xs := hs
  refine (h.kept hg ?_ : Y.ownsRow NB ty size v n xs)
  cases hb : v.ownBlock with
  | none => exact .inl rfl
  | some g =>
    refine .inr fun e => ?_
    have h1 := (hr g e.symm).1
    have h2 := hv g hb
    omega
theorem own_marks {β : Type} {B : Nat} {o : Obj} {Ds : List Nat} (hD : ∀ D ∈ Ds, D < B) : OwnFrom B (fun (_ : β) W => ∀ D ∈ Ds, W.heap[D]? = some o) := fun s X Y row hs hg hr D hm => own_obj (β := β) o (hD D hm) s X Y row (hs D hm) hg hr
theorem own_not {w : World} {NB : Nat} {ty : TypeId} {size : Nat} {v : Value} {n : Nat} {xs : List Value} (h : w.ownsRow NB ty size v n xs) {D : Nat} {ds : Option (List Deferred)} (hD : w.heap[D]? = some (.deferred ds)) : some D ≠ v.ownBlock := fun e => by
  rcases h.2 with ⟨rfl, _⟩ | ⟨g, cap, cur, rfl, _, hobj, _⟩
  · simp [Value.ownBlock] at e
  · have e2 : D = g := by simpa [Value.ownBlock] using e
    subst e2
    have h2 : w.heap[D]? = some (.cells cur ty) := hobj
    rw [hD] at h2
    cases h2
/-- 'out = append(out, x)' on a row of the call's own; the other blocks stay. -/
theorem wpList_pushg {ops : Array Oper} {rest : List Oper} {o : Oper} {a : Act} {Q : Exit → Act → World → Prop} {wr : World} (hgd : o.guard = none) (s y : Operand)
    (ho : o.op = .call { callee := .builtin .append, args := #[s, y], argTypes := #[33, 33] }) (x : Int) (B : Nat) (v : Value) (n : Nat) (xs : List Value) (hs : a.eval s = v)
    (hx : a.eval y = .slice (some ⟨wr.heap.size, 0, none⟩) 1 1) (hown : wr.ownsRow B 3 1 v n xs) (hB : B ≤ wr.heap.size) (hn : n ≤ 100000)
    (h : ∀ v' w', w'.ownsRow B 3 1 v' (n + 1) (xs ++ [.int .i64 x]) → Below B wr w' → (∀ k, k < wr.heap.size → some k ≠ v.ownBlock → w'.heap[k]? = wr.heap[k]?) → wpList Try.prog ops Q rest (a.put o.dst v') w') :
    wpList Try.prog ops Q (o :: rest) a (wr.alloc (.cells #[.int .i64 x] 3)) := by
  obtain ⟨i0, hi0, hz0, hz1, hz2⟩ := info_parts1w int_info3
  refine wpList_append_any _ hgd s y 33 ho B 3 i0 (.int .i64 0) 1 8 Try.underlying33 hi0 hz0 hz1 hz2 rfl (by decide) v n xs hs (hown.alloc _) (wr.heap.size + 1) (some ⟨wr.heap.size, 0, none⟩) 1 1 [.int .i64 x] hx ?_ ?_ ?_ ?_ ?_ ?_
  · refine ⟨rfl, fun _ => ⟨_, rfl, by simp, fun j u hu => ?_⟩⟩
    rcases j with _ | j
    · have hu' : u = .int .i64 x := by simpa using hu.symm
      subst hu'
      show (wr.alloc _).cell? ⟨wr.heap.size, 0, none⟩ = _
      go_cell
    · simp at hu
  · intro u hu
    simp at hu
    subst hu
    rfl
  · simp only [maxLen]; omega
  · omega
  · simp; omega
  · intro v' w' hown' hg _
    refine h v' w' hown' (((Below.refl B wr).alloc hB _).grown hg (by simp; omega) (fun j hj => (hown.lt j hj).1)) fun k hk hne => ?_
    exact (hg.block k (by simp; omega) hne).trans (((Below.refl wr.heap.size wr).alloc (Nat.le_refl _) _).block k hk)
/-- Marks of loops over functions, one after the other, on the way out. -/
theorem leaves_marks {F : Fence} {n : Nat} {P : Program} {fn : Func} {tmps : Array Value} {R : Ending → World → Prop} : ∀ (Ds : List Nat) (w : World), Ds.Nodup → (∀ D ∈ Ds, w.heap[D]? = some (.deferred (some []))) →
    (∀ w' : World, w'.os = w.os → w'.tape = w.tape → w'.output = w.output → w'.heap.size = w.heap.size → (∀ k, k ∉ Ds → w'.heap[k]? = w.heap[k]?) → LeavesInM F n P fn tmps R [] .returning w') →
    LeavesInM F n P fn tmps R (Ds.map fun D => { target := .collected D, args := #[] }) .returning w
  | [], w, _, _, h => h w rfl rfl rfl rfl (fun _ _ => rfl)
  | D :: Ds, w, hn, hm, h => by
    rw [List.nodup_cons] at hn
    refine ⟨by simp, .inl ⟨D, w.putObj D (.deferred none), rfl, run_takeDeferred (hm D List.mem_cons_self), ?_⟩⟩
    have hoth : ∀ k, k ≠ D → (w.putObj D (.deferred none)).heap[k]? = w.heap[k]? := fun k hk => World.putObj_heap_other hk
    refine leaves_marks Ds (w.putObj D (.deferred none)) hn.2 (fun D' hD' => ?_) fun w' h1 h2 h3 h4 h5 => ?_
    · rw [hoth D' (fun e => hn.1 (e ▸ hD'))]
      exact hm D' (List.mem_cons_of_mem _ hD')
    · refine h w' (h1.trans rfl) (h2.trans rfl) (h3.trans rfl) (h4.trans ?_) fun k hk => ?_
      · show (w.heap.setIfInBounds D _).size = _
        simp
      · rw [List.mem_cons, not_or] at hk
        rw [h5 k hk.2, hoth k hk.1]
namespace Wh
def anyR (d : Desk) (k : Nat) : Bool := (truthsL d).any fun t => rightB d (wkAt d.ws k) t.1
def stTo (d : Desk) : Nat → List Int
  | 0 => []
  | k + 1 => if anyR d k then stTo d k else stTo d k ++ [(k : Int)]
def strV (d : Desk) : List Int := if spE d = 0 then stTo d d.ws.length else []
theorem stTo_len (d : Desk) : ∀ k, (stTo d k).length ≤ k
  | 0 => Nat.le_refl _
  | k + 1 => by
    have := stTo_len d k
    unfold stTo
    split
    · omega
    · simp; omega
end Wh
set_option maxRecDepth 100000 in
set_option maxHeartbeats 8000000 in
theorem Strange_yes (s : Wh.Desk) (A : Option Addr) (c : Nat) (w : World) (h0 : Wh.spE s = 0) (hg : Wks w w.heap.size A s.ws) :
    Calls Try.prog 27 #[.agg (whV s), .slice A s.ws.length c] w (IntsEPost (Wh.stTo s s.ws.length) 0 w) := by
  have HP : Hid (∀ W, Below w.heap.size w W → Calls Try.prog 55 #[.agg (whV s), .slice A s.ws.length c] W (SpPost (dkV s A c) 0 W)) := fun W hW => by
    have := lay_any s A c W (by have := Wh.ok_len (Wh.sp_ok h0).1; omega) ((hg.keep hW).wider hW.size)
    rw [Wh.spV_yes h0, h0] at this
    exact this
  obtain ⟨hok, _⟩ := Wh.sp_ok h0
  have hs := Wh.ok_of hok
  have hlen := Wh.ok_len hok
  have HSEQ : Hid (∀ w', Below w.heap.size w w' → SeqFar Try.prog 56 #[.agg (dkV s A c)] #[] encTr w.heap.size (fun ys => ys = Wh.truthsL s) (fun pre => pre <+: Wh.truthsL s) 500000 w') := fun w' h => truths_far s hs (by omega) (Wh.ok_sm hok) A c w.heap.size w' h.size (hg.keep h)
  have HRI : Hid (∀ k, k < s.ws.length → ∀ (x : Wh.TrS) W, Calls Try.prog 62 #[.agg (dkV s A c), .agg #[.int .i64 (Wh.wkAt s.ws k).1, .int .i64 (Wh.wkAt s.ws k).2.1, .int .i64 (Wh.wkAt s.ws k).2.2.1, .int .i64 (Wh.wkAt s.ws k).2.2.2.1, .int .i64 (Wh.wkAt s.ws k).2.2.2.2], .agg #[.int .i64 x.1.1, .int .i64 x.1.2]] W fun e w' => e = .returned (.bool (Wh.rightB s (Wh.wkAt s.ws k) x.1)) ∧ Below W.heap.size W w') := fun k hk x W => right_any s hs A c _ x.1 W (Wh.ok_sm hok k hk) x.2
  have HAN : Hid (∀ k, Wh.anyR s k = (Wh.truthsL s).any fun t => Wh.rightB s (Wh.wkAt s.ws k) t.1) := fun k => rfl
  have HST : Hid (∀ k, Wh.stTo s (k + 1) = if Wh.anyR s k then Wh.stTo s k else Wh.stTo s k ++ [(k : Int)]) := fun k => rfl
  have HS0 : Hid (Wh.stTo s 0 = []) := rfl
  have HSL : Hid (∀ k, (Wh.stTo s k).length ≤ k) := Wh.stTo_len s
  have HG := Lib.hid hg
  obtain ⟨RB, hRB⟩ : ∃ R : Nat → Wh.Tr → Bool, ∀ k t, R k t = Wh.rightB s (Wh.wkAt s.ws k) t := ⟨_, fun _ _ => rfl⟩
  simp only [← hRB] at HRI HAN
  clear hg hok hs h0 hRB
  generalize Wh.stTo s = ST at *
  generalize Wh.anyR s = AR at *
  generalize Wh.truthsL s = TL at *
  obtain ⟨full, read, slip, skew, circ, glo, ghi, wrn, ws⟩ := s
  unfold dkV at *
  unfold whV at *
  dsimp only at *
  refine (callsIn_wide (n := 8)).1 ?_
  refine callsIn_of_wp_marks Try.func27 rfl trivial ?_ rfl
  simp only [Try.ntmps27, List.size_toArray, List.length_cons, List.length_nil, Nat.reduceAdd, Nat.reduceSub, Array.replicate_succ, Array.replicate_zero, List.push_toArray, List.append_toArray, List.nil_append, List.cons_append]
  gi_wp2
  refine wpIn_wide.2 (wp_scope_straight ((wpIn_wide (n := 8)).1 ?_))
  gi_wp2
  have hB1 : Below w.heap.size w (w.alloc (.cells #[.int .i64 full, .int .i64 read, .int .i64 slip, .int .i64 skew, .int .i64 circ, .int .i64 glo, .int .i64 ghi, .int .i64 wrn] 25)) := by (repeat' (first | (with_reducible exact Below.refl _ _) | (with_reducible assumption) | (with_reducible refine Below.alloc ?_ ?_ _) | (with_reducible refine Below.drew ?_) | (with_reducible refine Below.setCell ?_ ?_ _) | go_size | (exact (by simp)) | omega))
  generalize World.alloc w _ = w1 at *
  refine ⟨trivial, (callsIn_wide.2 (HP.out _ hB1)).mono ?_⟩
  rintro e w2 ⟨rfl, hb2⟩
  have hB2 := hB1.trans (hb2.mono hB1.size)
  clear hb2 hB1 HP
  gi_wp2
  refine wpIn_label ?_
  gi_wp2
  have bD3 := BoxS.new w2 77 #[.int .i64 full, .int .i64 read, .int .i64 slip, .int .i64 skew, .int .i64 circ, .int .i64 glo, .int .i64 ghi, .int .i64 wrn, .slice A ws.length c]
  have hB3 : Below w.heap.size w (w2.alloc (.cells #[.int .i64 full, .int .i64 read, .int .i64 slip, .int .i64 skew, .int .i64 circ, .int .i64 glo, .int .i64 ghi, .int .i64 wrn, .slice A ws.length c] 77)) := hB2.alloc hB2.size _
  have hz3 : (w2.alloc (.cells #[.int .i64 full, .int .i64 read, .int .i64 slip, .int .i64 skew, .int .i64 circ, .int .i64 glo, .int .i64 ghi, .int .i64 wrn, .slice A ws.length c] 77)).heap.size = w2.heap.size + 1 := by simp
  have hws := hB2.size
  clear hB2
  generalize World.alloc w2 _ = w3 at *
  refine wpIn_loop (fun a' V => ∃ (k : Nat) (Ds : List Nat) (v8 u9 u10 u11 u24 u25 u26 u27 u28 u29 u30 u31 u32 u33 u34 u35 u36 u37 u38 u39 : Value), a' = { tmps := #[.agg #[.int .i64 full, .int .i64 read, .int .i64 slip, .int .i64 skew, .int .i64 circ, .int .i64 glo, .int .i64 ghi, .int .i64 wrn], .slice A ws.length c, .pointer (some ⟨w.heap.size, 0, none⟩), undef, .slice none 0 0, .int .i64 0, .pointer (some ⟨w2.heap.size, 0, none⟩), .int .i64 0, v8, u9, u10, u11, .tuple #[.agg #[.int .i64 full, .int .i64 read, .int .i64 slip, .int .i64 skew, .int .i64 circ, .int .i64 glo, .int .i64 ghi, .int .i64 wrn, .slice A ws.length c], .int .i64 0], .agg #[.int .i64 full, .int .i64 read, .int .i64 slip, .int .i64 skew, .int .i64 circ, .int .i64 glo, .int .i64 ghi, .int .i64 wrn], .slice A ws.length c, .tuple #[.agg #[.int .i64 full, .int .i64 read, .int .i64 slip, .int .i64 skew, .int .i64 circ, .int .i64 glo, .int .i64 ghi, .int .i64 wrn, .slice A ws.length c], .int .i64 0], .agg #[.int .i64 full, .int .i64 read, .int .i64 slip, .int .i64 skew, .int .i64 circ, .int .i64 glo, .int .i64 ghi, .int .i64 wrn, .slice A ws.length c], .int .i64 0, .int .i64 0, .bool false, undef, .slice A ws.length c, .int .i64 (ws.length : Nat), .int .i64 (k : Int), u24, u25, u26, u27, u28, u29, u30, u31, u32, u33, u34, u35, u36, u37, u38, u39, undef], defers := (Ds.map fun D => { target := .collected D, args := #[] }) } ∧ k ≤ ws.length ∧ (Ds.Nodup ∧ ∀ D ∈ Ds, w3.heap.size ≤ D ∧ V.heap[D]? = some (.deferred (some []))) ∧ BoxS V w2.heap.size 77 #[.int .i64 full, .int .i64 read, .int .i64 slip, .int .i64 skew, .int .i64 circ, .int .i64 glo, .int .i64 ghi, .int .i64 wrn, .slice A ws.length c] ∧ V.ownsRow w3.heap.size 3 1 v8 (ST k).length ((ST k).map (Value.int .i64)) ∧ Below w.heap.size w V ∧ w3.heap.size ≤ V.heap.size) (fun a' _ => (ws.length - intOf (a'.eval (.tmp 23))).toNat) ?_ ?_
  · exact ⟨0, [], .slice none 0 0, undef, undef, undef, undef, undef, undef, undef, undef, undef, undef, undef, undef, undef, undef, undef, undef, undef, undef, undef, rfl, by omega, ⟨List.nodup_nil, fun D hD => by cases hD⟩, bD3, by rw [HS0.out]; exact owni_nil _ _, hB3, Nat.le_refl _⟩
  · clear bD3 hB3
    rintro a' V ⟨k, Ds, v8, u9, u10, u11, u24, u25, u26, u27, u28, u29, u30, u31, u32, u33, u34, u35, u36, u37, u38, u39, rfl, hk, ⟨hnd, hmk⟩, bD, hown, hB, hz⟩
    by_cases hlt : (k : Int) < ws.length
    · have hkn : k < ws.length := by omega
      obtain ⟨bb, off, hA, hbb, hcc⟩ := HG.out (by omega)
      subst hA
      obtain ⟨a0, a1, a2, a3, a4⟩ := hcc k hkn
      have a0 := (hB.cell (p := ⟨bb, _, none⟩) hbb).trans a0
      have a1 := (hB.cell (p := ⟨bb, _, none⟩) hbb).trans a1
      have a2 := (hB.cell (p := ⟨bb, _, none⟩) hbb).trans a2
      have a3 := (hB.cell (p := ⟨bb, _, none⟩) hbb).trans a3
      have a4 := (hB.cell (p := ⟨bb, _, none⟩) hbb).trans a4
      have HRK := Lib.hid (HRI.out k hkn)
      have HAK := Lib.hid (HAN.out k)
      have HSK := Lib.hid (HST.out k)
      have hsl := HSL.out k
      have hk0 := Int.natCast_nonneg k
      have hwk : IntKind.i64.wrap ((k : Int) + 1) = (k : Int) + 1 := IntWalk.i64_in _ (by have := hlen; omega)
      have lbb : bb < V.heap.size := by have := hB.size; omega
      clear hcc
      generalize Wh.wkAt ws k = qq at *
      obtain ⟨q1, q2, q3, q4, q5⟩ := qq
      dsimp only at a0 a1 a2 a3 a4 HRK
      generalize RB k = RK at *
      obtain ⟨⟨⟨d0, d1, d2⟩, d3, d4, d5⟩, d6, d7, d8⟩ := boxS9 bD
      have lD := bD.lt
      refine wpIn_wide.2 ?_
      go_wp2_with fail
      obtain ⟨NX, hNX⟩ : ∃ n, n = V.heap.size := ⟨_, rfl⟩
      have ha := (Below.refl V.heap.size V).alloc (Nat.le_refl _) (.cells #[.int .i64 q1, .int .i64 q2, .int .i64 q3, .int .i64 q4, .int .i64 q5] 54)
      have bX1 := BoxS.new V 54 #[.int .i64 q1, .int .i64 q2, .int .i64 q3, .int .i64 q4, .int .i64 q5]
      have bD1 := bD.alloc (.cells #[.int .i64 q1, .int .i64 q2, .int .i64 q3, .int .i64 q4, .int .i64 q5] 54)
      have hB1 : Below w.heap.size w (V.alloc (.cells #[.int .i64 q1, .int .i64 q2, .int .i64 q3, .int .i64 q4, .int .i64 q5] 54)) := hB.alloc hB.size _
      have hown1 := hown.alloc (.cells #[.int .i64 q1, .int .i64 q2, .int .i64 q3, .int .i64 q4, .int .i64 q5] 54)
      have hmk1 : ∀ D ∈ Ds, (V.alloc (.cells #[.int .i64 q1, .int .i64 q2, .int .i64 q3, .int .i64 q4, .int .i64 q5] 54)).heap[D]? = some (.deferred (some [])) := fun D hD => (ha.block D (Array.getElem?_eq_some_iff.1 (hmk D hD).2).1).trans (hmk D hD).2
      have hml : ∀ D ∈ Ds, D < (V.alloc (.cells #[.int .i64 q1, .int .i64 q2, .int .i64 q3, .int .i64 q4, .int .i64 q5] 54)).heap.size := fun D hD => (Array.getElem?_eq_some_iff.1 (hmk1 D hD)).1
      have hmz : ∀ D ∈ Ds, w3.heap.size ≤ D := fun D hD => (hmk D hD).1
      have hz1 : w3.heap.size ≤ (V.alloc (.cells #[.int .i64 q1, .int .i64 q2, .int .i64 q3, .int .i64 q4, .int .i64 q5] 54)).heap.size := by simp; omega
      have lDX : w2.heap.size < NX := by rw [hNX]; exact lD
      have lNX : NX < (V.alloc (.cells #[.int .i64 q1, .int .i64 q2, .int .i64 q3, .int .i64 q4, .int .i64 q5] 54)).heap.size := by rw [hNX]; simp
      rw [← hNX] at bX1
      simp only [← hNX]
      clear a0 a1 a2 a3 a4 d0 d1 d2 d3 d4 d5 d6 d7 d8 lD bD hB hown hmk ha hz lbb hNX
      generalize World.alloc V _ = wa at *
      refine (wpIn_wide (n := 8)).1 ?_
      refine wpIn_far (n₀ := w.heap.size) (gf := 56) (pb := #[.agg #[.int .i64 full, .int .i64 read, .int .i64 slip, .int .i64 skew, .int .i64 circ, .int .i64 glo, .int .i64 ghi, .int .i64 wrn, .slice (some ⟨bb, off, none⟩) ws.length c]]) (lb := #[]) rfl (enters_of Try.func56 (by kernel_rfl) rfl)
        (HSEQ.out wa hB1) (Below.refl _ _) (by omega) (fun _ => rfl)
        (fun (pre : List Wh.TrS) V => ((((BoxS V w2.heap.size 77 #[.int .i64 full, .int .i64 read, .int .i64 slip, .int .i64 skew, .int .i64 circ, .int .i64 glo, .int .i64 ghi, .int .i64 wrn, .slice (some ⟨bb, off, none⟩) ws.length c] ∧ BoxS V NX 54 #[.int .i64 q1, .int .i64 q2, .int .i64 q3, .int .i64 q4, .int .i64 q5]) ∧ V.ownsRow w3.heap.size 3 1 v8 (ST k).length ((ST k).map (Value.int .i64))) ∧ (∀ D ∈ Ds, V.heap[D]? = some (.deferred (some [])))) ∧ Hid (∀ t ∈ pre, RK t.1 = false)) ∧ Below w.heap.size w V)
        (fun cc (pre : List Wh.TrS) V => ((((BoxS V w2.heap.size 77 #[.int .i64 full, .int .i64 read, .int .i64 slip, .int .i64 skew, .int .i64 circ, .int .i64 glo, .int .i64 ghi, .int .i64 wrn, .slice (some ⟨bb, off, none⟩) ws.length c] ∧ BoxS V NX 54 #[.int .i64 q1, .int .i64 q2, .int .i64 q3, .int .i64 q4, .int .i64 q5]) ∧ V.ownsRow w3.heap.size 3 1 v8 (ST k).length ((ST k).map (Value.int .i64))) ∧ (∀ D ∈ Ds, V.heap[D]? = some (.deferred (some [])))) ∧ (cc = .exit 1 ∧ Hid (∃ t ∈ pre, RK t.1 = true))) ∧ Below w.heap.size w V)
        (OwnFrom.and (OwnFrom.and (OwnFrom.and (OwnFrom.and (OwnFrom.and (Own.from (boxS_own _ _ (fun _ => _)) _) (Own.from (boxS_own _ _ (fun _ => _)) _)) (own_row (fun g hg => (hown1.lt g hg).2))) (own_marks (fun D hD => hml D hD))) (ownFrom_pure _ (fun (pre : List Wh.TrS) => Hid (∀ t ∈ pre, RK t.1 = false)))) (ownFrom_below (Nat.le_refl _) (by omega)))
        (fun cc => OwnFrom.and (OwnFrom.and (OwnFrom.and (OwnFrom.and (OwnFrom.and (Own.from (boxS_own _ _ (fun _ => _)) _) (Own.from (boxS_own _ _ (fun _ => _)) _)) (own_row (fun g hg => (hown1.lt g hg).2))) (own_marks (fun D hD => hml D hD))) (ownFrom_pure _ (fun (pre : List Wh.TrS) => cc = .exit 1 ∧ Hid (∃ t ∈ pre, RK t.1 = true)))) (ownFrom_below (Nat.le_refl _) (by omega)))
        ⟨⟨⟨⟨⟨bD1, bX1⟩, hown1⟩, hmk1⟩, fun t ht => by cases ht⟩, hB1⟩
        (fun x a' V => ∃ Bx, NX < Bx ∧ BoxS V Bx 80 #[.int .i64 x.1.1, .int .i64 x.1.2] ∧ a' = { tmps := #[.agg #[.int .i64 full, .int .i64 read, .int .i64 slip, .int .i64 skew, .int .i64 circ, .int .i64 glo, .int .i64 ghi, .int .i64 wrn], .slice (some ⟨bb, off, none⟩) ws.length c, .pointer (some ⟨w.heap.size, 0, none⟩), undef, .slice none 0 0, .int .i64 0, .pointer (some ⟨w2.heap.size, 0, none⟩), .int .i64 0, v8, .int .i64 (k : Int), .pointer (some ⟨NX, 0, none⟩), .pointer (some ⟨Bx, 0, none⟩), .tuple #[.agg #[.int .i64 full, .int .i64 read, .int .i64 slip, .int .i64 skew, .int .i64 circ, .int .i64 glo, .int .i64 ghi, .int .i64 wrn, .slice (some ⟨bb, off, none⟩) ws.length c], .int .i64 0], .agg #[.int .i64 full, .int .i64 read, .int .i64 slip, .int .i64 skew, .int .i64 circ, .int .i64 glo, .int .i64 ghi, .int .i64 wrn], .slice (some ⟨bb, off, none⟩) ws.length c, .tuple #[.agg #[.int .i64 full, .int .i64 read, .int .i64 slip, .int .i64 skew, .int .i64 circ, .int .i64 glo, .int .i64 ghi, .int .i64 wrn, .slice (some ⟨bb, off, none⟩) ws.length c], .int .i64 0], .agg #[.int .i64 full, .int .i64 read, .int .i64 slip, .int .i64 skew, .int .i64 circ, .int .i64 glo, .int .i64 ghi, .int .i64 wrn, .slice (some ⟨bb, off, none⟩) ws.length c], .int .i64 0, .int .i64 0, .bool false, undef, .slice (some ⟨bb, off, none⟩) ws.length c, .int .i64 (ws.length : Nat), .int .i64 (k : Int), .bool true, .int .i64 (k : Int), .pointer (some ⟨bb, off + k * 5, none⟩), .agg #[.int .i64 q1, .int .i64 q2, .int .i64 q3, .int .i64 q4, .int .i64 q5], .agg #[.int .i64 full, .int .i64 read, .int .i64 slip, .int .i64 skew, .int .i64 circ, .int .i64 glo, .int .i64 ghi, .int .i64 wrn, .slice (some ⟨bb, off, none⟩) ws.length c], .func (.func 56) #[.agg #[.int .i64 full, .int .i64 read, .int .i64 slip, .int .i64 skew, .int .i64 circ, .int .i64 glo, .int .i64 ghi, .int .i64 wrn, .slice (some ⟨bb, off, none⟩) ws.length c]] #[], .agg #[.int .i64 x.1.1, .int .i64 x.1.2], u31, u32, u33, u34, u35, u36, u37, u38, u39, undef], defers := [] })
        (fun x a' _ X Y row hs hg hr => by obtain ⟨Bx, e1, e2, e3⟩ := hs; exact ⟨Bx, e1, boxS_own Bx 80 (fun (_ : Unit) => #[.int .i64 x.1.1, .int .i64 x.1.2]) () X Y row e2 hg (fun r e => (hr r e).2), e3⟩)
        ?assign ?body ?done ?stop
      case assign =>
        rintro l2 pre x V K ⟨⟨⟨⟨⟨bD, bX⟩, hown⟩, hmk⟩, hno⟩, hB⟩ hK
        unfold encTr
        gi_wp2
        exact hK _ _ (Apart.alloc _ _) ⟨⟨⟨⟨⟨bD.alloc _, bX.alloc _⟩, hown.alloc _⟩, fun D hD => (((Below.refl V.heap.size V).alloc (Nat.le_refl _) _).block D (Array.getElem?_eq_some_iff.1 (hmk D hD)).1).trans (hmk D hD)⟩, hno⟩, hB.alloc hB.size _⟩ ⟨V.heap.size, bX.lt, BoxS.new V _ _, rfl⟩
      case body =>
        rintro l2 pre x a' V ⟨⟨⟨⟨⟨bD, bX⟩, hown⟩, hmk⟩, hno⟩, hB⟩ ⟨Bx, hBx, bT, rfl⟩ hlt'
        obtain ⟨⟨⟨d0, d1, d2⟩, d3, d4, d5⟩, d6, d7, d8⟩ := boxS9 bD
        obtain ⟨⟨y0, y1, y2⟩, y3, y4⟩ := boxS5 bX
        have t0 := bT.cell 0 rfl
        have t1 := bT.cell 1 rfl
        have HR1 := Lib.hid (HRK.out x V)
        cases hr : RK x.1 with
        | false =>
          rw [hr] at HR1
          gi_wp2
          refine ⟨trivial, (CallsIn.inRound l2 (callsIn_wide.2 HR1.out)).mono ?_⟩
          rintro e V2 ⟨rfl, hb2⟩
          gi_wp2
          exact ⟨Apart.of_below hb2, ⟨⟨⟨⟨bD.below hb2, bX.below hb2⟩, owni_below hown hb2⟩, fun D hD => (hb2.block D (Array.getElem?_eq_some_iff.1 (hmk D hD)).1).trans (hmk D hD)⟩, fun t ht => (List.mem_append.1 ht).elim (hno.out t) (fun e => by simp at e; subst e; exact hr)⟩, hB.trans (hb2.mono hB.size)⟩
        | true =>
          rw [hr] at HR1
          gi_wp2
          refine ⟨trivial, (CallsIn.inRound l2 (callsIn_wide.2 HR1.out)).mono ?_⟩
          rintro e V2 ⟨rfl, hb2⟩
          gi_wp2
          exact ⟨Apart.of_below hb2, ⟨⟨⟨⟨bD.below hb2, bX.below hb2⟩, owni_below hown hb2⟩, fun D hD => (hb2.block D (Array.getElem?_eq_some_iff.1 (hmk D hD)).1).trans (hmk D hD)⟩, rfl, x, List.mem_append.2 (.inr (by simp)), hr⟩, hB.trans (hb2.mono hB.size)⟩
      case done =>
        rintro D0 zs V hD0 rfl ⟨⟨⟨⟨⟨bD, bX⟩, hown⟩, hmk⟩, hno⟩, hB⟩ hK
        have HSN : Hid (ST (k + 1) = ST k ++ [(k : Int)]) := by
          have e : AR k = false := by
            rw [HAK.out, Bool.eq_false_iff]
            intro h
            obtain ⟨t, ht, h2⟩ := List.any_eq_true.1 h
            rw [hno.out t ht] at h2
            cases h2
          unfold Hid
          rw [HSK.out, e]
          rfl
        have HO := Lib.hid hown
        have hlV : w3.heap.size ≤ V.heap.size := by
          have := (Array.getElem?_eq_some_iff.1 hK).1
          omega
        go_wp2_with (at_builtin; refine wpList_pushg rfl (.tmp 35) (.tmp 37) rfl (k : Int) w3.heap.size _ _ _ rfl rfl HO.out hlV (by omega) ?_; intro v' w5 hown5 hb5 hk5; have HO5 := Lib.hid hown5; clear hown5)
        have hmk5 : ∀ D ∈ D0 :: Ds, w3.heap.size ≤ D ∧ w5.heap[D]? = some (.deferred (some [])) := fun D hD => by
          have hv : V.heap[D]? = some (.deferred (some [])) := by
            rcases List.mem_cons.1 hD with e | e
            · rw [e]; exact hK
            · exact hmk D e
          refine ⟨?_, (hk5 D (Array.getElem?_eq_some_iff.1 hv).1 (own_not HO.out hv)).trans hv⟩
          rcases List.mem_cons.1 hD with e | e
          · rw [e]; omega
          · exact hmz D e
        have hnd5 : (D0 :: Ds).Nodup := List.nodup_cons.2 ⟨fun h => by have := hml D0 h; omega, hnd⟩
        have hc : ((k + 1 : Nat) : Int) = (k : Int) + 1 := by omega
        refine ⟨⟨k + 1, D0 :: Ds, v', _, _, _, _, _, _, _, _, _, _, _, _, _, _, _, _, _, _, _, rfl, by omega, ⟨hnd5, hmk5⟩, (hb5.block w2.heap.size (by omega)).trans bD, ?_, hB.trans (hb5.mono (by omega)), by have := hb5.size; omega⟩, ?_⟩
        · rw [HSN.out, List.length_append, List.map_append]
          exact HO5.out
        · simp [Act.eval, intOf]
          omega
      case stop =>
        rintro D0 cc pre V hD0 hpre ⟨⟨⟨⟨⟨bD, bX⟩, hown⟩, hmk⟩, rfl, hex⟩, hB⟩ hK
        have HSN : Hid (ST (k + 1) = ST k) := by
          have e : AR k = true := by
            rw [HAK.out]
            obtain ⟨t, ht, h2⟩ := hex.out
            exact List.any_eq_true.2 ⟨t, hpre.subset ht, h2⟩
          unfold Hid
          rw [HSK.out, e]
          rfl
        refine wpIn_wide.2 ?_
        go_wp2_with fail
        have hlV : w3.heap.size ≤ V.heap.size := by
          have := (Array.getElem?_eq_some_iff.1 hK).1
          omega
        have hmk5 : ∀ D ∈ D0 :: Ds, w3.heap.size ≤ D ∧ V.heap[D]? = some (.deferred (some [])) := fun D hD => by
          rcases List.mem_cons.1 hD with e | e
          · rw [e]; exact ⟨by omega, hK⟩
          · exact ⟨hmz D e, hmk D e⟩
        have hnd5 : (D0 :: Ds).Nodup := List.nodup_cons.2 ⟨fun h => by have := hml D0 h; omega, hnd⟩
        refine ⟨⟨k + 1, D0 :: Ds, v8, _, _, _, _, _, _, _, _, _, _, _, _, _, _, _, _, _, _, _, rfl, by omega, ⟨hnd5, hmk5⟩, bD, by rw [HSN.out]; exact hown, hB, hlV⟩, ?_⟩
        · simp [Act.eval, intOf]
          omega
    · have hkn : k = ws.length := by omega
      subst hkn
      have hI := Lib.hid (Ints.of_own hown)
      gi_wp2
      gi_wp2
      show LeavesInM _ _ _ _ _ _ _ _ _
      refine leaves_marks Ds V hnd (fun D hD => (hmk D hD).2) (fun w' h1 h2 h3 h4 h5 => ?_)
      have hown' : w'.ownsRow w3.heap.size 3 1 v8 (ST ws.length).length ((ST ws.length).map (Value.int .i64)) := by
        refine ⟨hown.1, ?_⟩
        rcases hown.2 with hn | ⟨g, cap, cur, hv, hle, hobj, hrest⟩
        · exact .inl hn
        · refine .inr ⟨g, cap, cur, hv, hle, (h5 g fun hg => ?_).trans hobj, hrest⟩
          refine own_not hown (hmk g hg).2 ?_
          rw [hv]
          rfl
      have hB' : Below w.heap.size w w' := ⟨h1.trans hB.os, h2.trans hB.tape, h3.trans hB.output, by rw [h4]; exact hB.size, fun q hq => (h5 q fun hg => by have := (hmk q hg).1; omega).trans (hB.block q hq)⟩
      exact ⟨.tuple #[v8, .int .i64 0], by simp [results, Try.f27, go_sem], v8, rfl, Ints.of_own hown', hB'⟩
set_option maxRecDepth 100000 in
set_option maxHeartbeats 4000000 in
theorem Strange_no (s : Wh.Desk) (A : Option Addr) (c : Nat) (w : World) (hl : s.ws.length ≤ 1000000000) (hg : Wks w w.heap.size A s.ws) (h0 : Wh.spE s ≠ 0) :
    Calls Try.prog 27 #[.agg (whV s), .slice A s.ws.length c] w (IntsEPost [] (Wh.spE s) w) := by
  have HP : Hid (∀ W, Below w.heap.size w W → Calls Try.prog 55 #[.agg (whV s), .slice A s.ws.length c] W (SpPost (Wh.spV s A c) (Wh.spE s) W)) := fun W hW => lay_any s A c W hl ((hg.keep hW).wider hW.size)
  rw [Wh.spV_no h0] at HP
  have hb : (Wh.spE s != 0) = true := by simpa using h0
  clear hg h0
  generalize Wh.spE s = E at *
  obtain ⟨full, read, slip, skew, circ, glo, ghi, wrn, ws⟩ := s
  unfold whV at *
  dsimp only at *
  refine (callsIn_wide (n := 8)).1 ?_
  refine callsIn_of_wp_marks Try.func27 rfl trivial ?_ rfl
  simp only [Try.ntmps27, List.size_toArray, List.length_cons, List.length_nil, Nat.reduceAdd, Nat.reduceSub, Array.replicate_succ, Array.replicate_zero, List.push_toArray, List.append_toArray, List.nil_append, List.cons_append]
  gi_wp2
  refine wpIn_wide.2 (wp_scope_straight ((wpIn_wide (n := 8)).1 ?_))
  gi_wp2
  have hB1 : Below w.heap.size w (w.alloc (.cells #[.int .i64 full, .int .i64 read, .int .i64 slip, .int .i64 skew, .int .i64 circ, .int .i64 glo, .int .i64 ghi, .int .i64 wrn] 25)) := by (repeat' (first | (with_reducible exact Below.refl _ _) | (with_reducible assumption) | (with_reducible refine Below.alloc ?_ ?_ _) | (with_reducible refine Below.drew ?_) | (with_reducible refine Below.setCell ?_ ?_ _) | go_size | (exact (by simp)) | omega))
  generalize World.alloc w _ = w1 at *
  refine ⟨trivial, (callsIn_wide.2 (HP.out _ hB1)).mono ?_⟩
  rintro e w2 ⟨rfl, hb2⟩
  have hB2 := hB1.trans (hb2.mono hB1.size)
  gi_wp2
  show LeavesInM _ _ _ _ _ _ [] _ _
  exact ⟨.tuple #[.slice none 0 0, .int .i64 E], by simp [results, Try.f27, go_sem], _, rfl, .inl ⟨rfl, rfl⟩, hB2.alloc hB2.size _⟩
theorem Strange_any (s : Wh.Desk) (A : Option Addr) (c : Nat) (w : World) (hl : s.ws.length ≤ 1000000000) (hg : Wks w w.heap.size A s.ws) :
    Calls Try.prog 27 #[.agg (whV s), .slice A s.ws.length c] w (IntsEPost (Wh.strV s) (Wh.spE s) w) := by
  unfold Wh.strV
  by_cases h0 : Wh.spE s = 0
  · rw [if_pos h0, h0]
    exact Strange_yes s A c w h0 hg
  · rw [if_neg h0]
    exact Strange_no s A c w hl hg h0
end Go.Proofs.Ytecmlakcpgkfbaa
