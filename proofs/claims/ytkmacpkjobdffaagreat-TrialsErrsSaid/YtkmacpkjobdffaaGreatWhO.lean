/- Wheels: the map of what is asked of all truths, laid by a loop over them. -/
import Derived.Test.YtkmacpkjobdffaaGreatWhH
import Derived.Maps.OwnIn
import Derived.Test.YtkmacpkjobdffaaGreatShelf
namespace Go.Proofs.YtkmacpkjobdffaaGreat
open Go.RowKit Go.Shelf Go.Maps
attribute [local go_sem] Oper.semAt_some
theorem wpIn_mapUpdate_at {H : Type} {F : Fence} {nF : Nat} {P : Program} (w : World) {o : Oper} {a : Act} {K' : Act → World → Prop} {Q : Exit → Act → World → Prop} (m x v : Operand) (t : TypeId) (hop : o.op = Op.mapUpdate t m x v)
    (k e : TypeId) (K : Keyed P k) (ht : P.underlying t = some (.map k e)) (R : Value → Option (DataW H × List MemPlace)) (b n : Nat) (D : DataW H)
    (hm : a.eval m = .map (some b)) (hown : w.ownsMap P k R b n D) (hn : n < maxLen) (key val : Value) (kl : Lit) (hx : a.eval x = key) (hv : a.eval v = val) (hkey : keyOf P k key = some kl)
    (d : DataW H) (ps : List MemPlace) (hval : R val = some (d, ps))
    (hK : ∀ w', w'.ownsMap P k R b (n + 1) (D.put kl d) → w.grownBy w' (some b) → K' (a.put o.dst undef) w') : o.wpIn F nF P a w K' Q := by
  obtain ⟨w', hrun, r1, r2⟩ := hown.update K ht hn hkey hval
  unfold Oper.wpIn
  refine ⟨by simp [Oper.about, hop], ?_⟩
  rw [Oper.semAt_plain F _ _ (by rw [hop]; intro c hc'; cases hc')]
  simp [execOp, hop, hm, hx, hv, hrun, Result.andThen]
  exact hK w' r1 r2
theorem wf_small {x : Int} (h : -1000000 ≤ x ∧ x ≤ 1000000) : (Lit.int .i64 x).wf = true := by
  exact WalkArith.wf_i64 (by omega)
namespace Wh
/-- The map that reads what is asked of each truth. -/
def mapD {H : Type} (f : Tr → Int) (L : List TrS) : DataW H := L.foldl (fun D x => D.put (.int .i64 (f x.1)) (.lit (.bool true))) (.map [])
theorem mapD_snoc {H : Type} (f : Tr → Int) (L : List TrS) (x : TrS) : mapD (H := H) f (L ++ [x]) = (mapD f L).put (.int .i64 (f x.1)) (.lit (.bool true)) := by unfold mapD; rw [List.foldl_append]; rfl
end Wh
end Go.Proofs.YtkmacpkjobdffaaGreat

namespace Go.Proofs.YtkmacpkjobdffaaGreat
open Go.RowKit Go.Shelf Go.Maps Go.Sort
attribute [local go_sem] Oper.semAt_some
theorem sorts_any (m : Nat) : AnyZI.SortsIn Tryz.prog Tryz.sortedA_ren Fence.wide m :=
  ⟨fun blk off cap ss W hH hblk hsz => callsIn_wide.2 (AnyM.slices_Sort_int Tryz.sortA blk off cap ss W hH hblk hsz),
   fun p cap W => callsIn_wide.2 (AnyM.slices_Sort_int_none Tryz.sortA p cap W)⟩
theorem keys_call (mb : Option Nat) (W : World) : Calls Tryz.prog 96 #[.map mb] W fun e w' => e = .returned (.func (.func 114) #[] #[.pointer (some ⟨W.heap.size, 0, none⟩)]) ∧ w' = W.alloc (.cells #[.map mb] 128) :=
  (callsIn_wide (n := 5)).1 (AnyZI.keys_in Tryz.keysA Fence.wide 5 trivial rfl mb W)
/-- What a sorted row of a map's keys is. -/
def KeysPost (L : List Int) (w : World) (e : Ending) (w' : World) : Prop := ∃ v : Value, e = .returned v ∧ w'.ownsRow w.heap.size 3 1 v L.length (L.map encZ) ∧ (v = .slice none 0 0 ↔ L = []) ∧ Below w.heap.size w w'
set_option maxHeartbeats 1000000 in
theorem sorted_call {H : Type} (b nn : Nat) (D0 : DataW H) (R : Value → Option (DataW H × List MemPlace)) (w : World) (hown : w.ownsMap Tryz.prog 3 R b nn D0) (hmax : Maps.size D0 ≤ maxLen) (hbytes : Maps.size D0 * 8 ≤ 140737488355328) :
    Calls Tryz.prog 95 #[.func (.func 114) #[] #[.pointer (some ⟨w.heap.size, 0, none⟩)]] (w.alloc (.cells #[.map (some b)] 128)) (KeysPost ((intKeys D0).mergeSort (fun x y => decide (x ≤ y))) (w.alloc (.cells #[.map (some b)] 128))) := by
  have hbl := hown.lt
  have hseq : SeqGives Fence.wide 2 Tryz.prog 114 #[.pointer (some ⟨w.heap.size, 0, none⟩)] encZ (fun ss => ss.Perm (intKeys D0)) (Maps.size D0) (w.alloc (.cells #[.map (some b)] 128)) :=
    AnyZI.keys_gives (ρ := Tryz.keysA_ren) { Tryz.keysA with } Fence.wide _ trivial rfl (by omega) w.heap.size b nn D0 _ (by simp) (by simp) (by
      obtain ⟨es, clock, hb, Ft, hs, hD⟩ := hown
      exact ⟨es, clock, (Below.heap_alloc _ _ b hbl).trans hb, Ft, hs, hD⟩)
  have cS := AnyZI.sorted_in Tryz.sortedA Fence.wide 5 trivial trivial trivial trivial rfl (by omega) (sorts_any _) (enters_of Tryz.func113 (by kernel_rfl) rfl) 114 #[.pointer (some ⟨w.heap.size, 0, none⟩)] trivial (enters_of Tryz.func114 (by kernel_rfl) rfl) _ _ hmax hbytes _ hseq
  change CallsIn _ _ Tryz.prog 95 _ _ _ at cS
  refine ((callsIn_wide (n := 5)).1 cS).mono ?_
  rintro e w' ⟨v, ss, rfl, hS, hrow, hnil, hb⟩
  have hm : ss.mergeSort (fun x y => decide (x ≤ y)) = (intKeys D0).mergeSort (fun x y => decide (x ≤ y)) := by
    refine List.Perm.eq_of_pairwise (le := fun x y : Int => decide (x ≤ y) = true) ?_ (List.pairwise_mergeSort ?_ ?_ _) (List.pairwise_mergeSort ?_ ?_ _) ?_
    · intro a b _ _ h1 h2; simp at h1 h2; omega
    · intro a b c h1 h2; simp at *; omega
    · intro a b; simp; omega
    · intro a b c h1 h2; simp at *; omega
    · intro a b; simp; omega
    · exact ((List.mergeSort_perm _ _).trans hS).trans (List.mergeSort_perm _ _).symm
  refine ⟨v, rfl, ?_, ?_, hb⟩
  · rw [← hm, List.length_mergeSort]; exact hrow
  · rw [hnil, ← hm]
    constructor
    · rintro rfl; simp
    · intro h; have := congrArg List.length h; rw [List.length_mergeSort] at this; exact List.length_eq_zero_iff.1 this
namespace Wh
/-- What is asked of all truths, each number once, sorted. -/
def allL (f : Tr → Int) (L : List TrS) : List Int := (intKeys (mapD (H := Empty) f L)).mergeSort (fun x y => decide (x ≤ y))
end Wh
theorem ownsMap_below {H : Type} {P : Program} {k : TypeId} {R : Value → Option (DataW H × List MemPlace)} {b n : Nat} {D : DataW H} {W W' : World} (h : W.ownsMap P k R b n D) (hb : Below W.heap.size W W') : W'.ownsMap P k R b n D := by
  obtain ⟨es, clock, h1, h2⟩ := h
  exact ⟨es, clock, heap_below hb h1, h2⟩
theorem ownsRow_put {w : World} {base base' : Nat} {e : TypeId} {size : Nat} {v : Value} {n : Nat} {xs : List Value} (h : w.ownsRow base e size v n xs) {D : Nat} (o : Obj) (hD : D < base) (hb : base' ≤ base) : (w.putObj D o).ownsRow base' e size v n xs := by
  obtain ⟨h1, h2⟩ := h
  refine ⟨h1, ?_⟩
  rcases h2 with h2 | ⟨g, cap, cur, a1, a2, a3, a4⟩
  · exact .inl h2
  · exact .inr ⟨g, cap, cur, a1, Nat.le_trans hb a2, (World.putObj_heap_other (by omega)).trans a3, a4⟩

def SortPost (L : List Int) (w : World) (e : Ending) (w' : World) : Prop := ∃ v : Value, e = .returned v ∧ w'.ownsRow w.heap.size 3 1 v L.length (L.map encZ) ∧ (v = .slice none 0 0 ↔ L = []) ∧ Below w.heap.size w w'
set_option maxRecDepth 100000 in
set_option maxHeartbeats 8000000 in
theorem all_any (d : Wh.Desk) (hok : Wh.okB d = true) (g : FuncId) (f : Wh.Tr → Int) (HE : ∀ args W, (callFunc g args).run Tryz.prog W = .ok (.enter g args) W) (hf : ∀ x : Wh.TrS, -1000000 ≤ f x.1 ∧ f x.1 ≤ 1000000) (HO : Hid (∀ (x : Wh.Tr) W, Calls Tryz.prog g #[.agg #[.int .i64 x.1, .int .i64 x.2]] W fun e w' => e = .returned (.int .i64 (f x)) ∧ Below W.heap.size W w'))
    (A : Option Addr) (c : Nat) (w : World) (hg : Wks w w.heap.size A d.ws) :
    Calls Tryz.prog 85 #[.agg (dkV d A c), .func (.func g) #[] #[]] w (SortPost (Wh.allL f (Wh.truthsL d)) w) := by
  have hs := Wh.ok_of hok
  have hln := Wh.ok_len hok
  have HSEQ : Hid (∀ w', Below w.heap.size w w' → SeqFar Tryz.prog 109 #[.agg (dkV d A c)] #[] encTr w.heap.size (fun ys => ys = Wh.truthsL d) (fun pre => pre <+: Wh.truthsL d) 500000 w') := fun w' h => truths_far d hs (by omega) (Wh.ok_sm hok) A c w.heap.size w' h.size (hg.keep h)
  have hlen := Wh.truthsL_len d hs
  have HF := Lib.hid hf
  have hmm := @run_makeMap Tryz.prog
  clear hg hs hln hok hf
  generalize Wh.truthsL d = TL at *
  obtain ⟨full, read, slip, skew, circ, glo, ghi, wrn, ws⟩ := d
  unfold dkV at *
  dsimp only at *
  refine (callsIn_wide (n := 8)).1 ?_
  refine callsIn_of_wp_marks Tryz.func85 rfl trivial ?_ rfl
  simp only [Tryz.ntmps85, List.size_toArray, List.length_cons, List.length_nil, Nat.reduceAdd, Nat.reduceSub, Array.replicate_succ, Array.replicate_zero, List.push_toArray, List.append_toArray, List.nil_append, List.cons_append]
  gi_wp2
  obtain ⟨BM, hBM⟩ : ∃ B, B = w.heap.size + 1 + 1 := ⟨_, rfl⟩
  obtain ⟨BV, hBV⟩ : ∃ B, B = w.heap.size + 1 + 1 + 1 := ⟨_, rfl⟩
  have bD5 : BoxS ((((w.alloc (.cells #[.int .i64 full, .int .i64 read, .int .i64 slip, .int .i64 skew, .int .i64 circ, .int .i64 glo, .int .i64 ghi, .int .i64 wrn, .slice A ws.length c] 115)).alloc (.cells #[.func (.func g) #[] #[]] 119)).alloc (.map #[] 0)).alloc (.cells #[.map (some (w.heap.size + 1 + 1))]  128)) w.heap.size 115 #[.int .i64 full, .int .i64 read, .int .i64 slip, .int .i64 skew, .int .i64 circ, .int .i64 glo, .int .i64 ghi, .int .i64 wrn, .slice A ws.length c] := (((BoxS.new w 115 #[.int .i64 full, .int .i64 read, .int .i64 slip, .int .i64 skew, .int .i64 circ, .int .i64 glo, .int .i64 ghi, .int .i64 wrn, .slice A ws.length c]).alloc _).alloc _).alloc _
  have bF5 : BoxS ((((w.alloc (.cells #[.int .i64 full, .int .i64 read, .int .i64 slip, .int .i64 skew, .int .i64 circ, .int .i64 glo, .int .i64 ghi, .int .i64 wrn, .slice A ws.length c] 115)).alloc (.cells #[.func (.func g) #[] #[]] 119)).alloc (.map #[] 0)).alloc (.cells #[.map (some (w.heap.size + 1 + 1))]  128)) (w.heap.size + 1) 119 #[.func (.func g) #[] #[]] := by
    have := ((BoxS.new (w.alloc (.cells #[.int .i64 full, .int .i64 read, .int .i64 slip, .int .i64 skew, .int .i64 circ, .int .i64 glo, .int .i64 ghi, .int .i64 wrn, .slice A ws.length c] 115)) 119 #[.func (.func g) #[] #[]]).alloc (.map #[] 0)).alloc (.cells #[.map (some (w.heap.size + 1 + 1))]  128)
    rw [World.size_alloc] at this
    exact this
  have bV5 : BoxS ((((w.alloc (.cells #[.int .i64 full, .int .i64 read, .int .i64 slip, .int .i64 skew, .int .i64 circ, .int .i64 glo, .int .i64 ghi, .int .i64 wrn, .slice A ws.length c] 115)).alloc (.cells #[.func (.func g) #[] #[]] 119)).alloc (.map #[] 0)).alloc (.cells #[.map (some (w.heap.size + 1 + 1))]  128)) BV  128 #[.map (some BM)] := by
    have := BoxS.new (((w.alloc (.cells #[.int .i64 full, .int .i64 read, .int .i64 slip, .int .i64 skew, .int .i64 circ, .int .i64 glo, .int .i64 ghi, .int .i64 wrn, .slice A ws.length c] 115)).alloc (.cells #[.func (.func g) #[] #[]] 119)).alloc (.map #[] 0))  128 #[.map (some (w.heap.size + 1 + 1))]
    simp only [World.size_alloc] at this
    rw [hBV, hBM]; exact this
  have hown5 : ((((w.alloc (.cells #[.int .i64 full, .int .i64 read, .int .i64 slip, .int .i64 skew, .int .i64 circ, .int .i64 glo, .int .i64 ghi, .int .i64 wrn, .slice A ws.length c] 115)).alloc (.cells #[.func (.func g) #[] #[]] 119)).alloc (.map #[] 0)).alloc (.cells #[.map (some (w.heap.size + 1 + 1))]  128)).ownsMap Tryz.prog 3 (plainElem (H := Empty) Tryz.prog 4) BM 0 (Wh.mapD f []) := by
    have := World.ownsMap_made (H := Empty) ((w.alloc (.cells #[.int .i64 full, .int .i64 read, .int .i64 slip, .int .i64 skew, .int .i64 circ, .int .i64 glo, .int .i64 ghi, .int .i64 wrn, .slice A ws.length c] 115)).alloc (.cells #[.func (.func g) #[] #[]] 119)) Tryz.prog 3 (plainElem Tryz.prog 4)
    simp only [World.size_alloc] at this
    rw [hBM]; exact this.alloc _
  have hB5 : Below w.heap.size w ((((w.alloc (.cells #[.int .i64 full, .int .i64 read, .int .i64 slip, .int .i64 skew, .int .i64 circ, .int .i64 glo, .int .i64 ghi, .int .i64 wrn, .slice A ws.length c] 115)).alloc (.cells #[.func (.func g) #[] #[]] 119)).alloc (.map #[] 0)).alloc (.cells #[.map (some (w.heap.size + 1 + 1))]  128)) := by (repeat' (first | (with_reducible exact Below.refl _ _) | (with_reducible assumption) | (with_reducible refine Below.alloc ?_ ?_ _) | (with_reducible refine Below.drew ?_) | (with_reducible refine Below.setCell ?_ ?_ _) | go_size | (exact (by simp)) | omega))
  have hz : ((((w.alloc (.cells #[.int .i64 full, .int .i64 read, .int .i64 slip, .int .i64 skew, .int .i64 circ, .int .i64 glo, .int .i64 ghi, .int .i64 wrn, .slice A ws.length c] 115)).alloc (.cells #[.func (.func g) #[] #[]] 119)).alloc (.map #[] 0)).alloc (.cells #[.map (some (w.heap.size + 1 + 1))]  128)).heap.size = w.heap.size + 4 := by simp
  have hord : w.heap.size + 1 < BM ∧ BM < BV ∧ BV < ((((w.alloc (.cells #[.int .i64 full, .int .i64 read, .int .i64 slip, .int .i64 skew, .int .i64 circ, .int .i64 glo, .int .i64 ghi, .int .i64 wrn, .slice A ws.length c] 115)).alloc (.cells #[.func (.func g) #[] #[]] 119)).alloc (.map #[] 0)).alloc (.cells #[.map (some (w.heap.size + 1 + 1))]  128)).heap.size := by omega
  generalize ((((w.alloc (.cells #[.int .i64 full, .int .i64 read, .int .i64 slip, .int .i64 skew, .int .i64 circ, .int .i64 glo, .int .i64 ghi, .int .i64 wrn, .slice A ws.length c] 115)).alloc (.cells #[.func (.func g) #[] #[]] 119)).alloc (.map #[] 0)).alloc (.cells #[.map (some (w.heap.size + 1 + 1))]  128)) = w5 at *
  rw [← hBV, ← hBM]
  clear hBM hBV
  obtain ⟨k2, k3, k4⟩ := hord
  refine wpIn_far (n₀ := w.heap.size) (gf := 109) (pb := #[.agg #[.int .i64 full, .int .i64 read, .int .i64 slip, .int .i64 skew, .int .i64 circ, .int .i64 glo, .int .i64 ghi, .int .i64 wrn, .slice A ws.length c]]) (lb := #[]) rfl (enters_of Tryz.func109 (by kernel_rfl) rfl)
    (HSEQ.out w5 hB5) (Below.refl _ _) (by omega) (fun _ => rfl)
    (fun (pre : List Wh.TrS) V => ((BoxS V (w.heap.size + 1) 119 #[.func (.func g) #[] #[]] ∧ BoxS V BV  128 #[.map (some BM)]) ∧ V.ownsMap Tryz.prog 3 (plainElem (H := Empty) Tryz.prog 4) BM pre.length (Wh.mapD f pre)) ∧ Below w.heap.size w V)
    (fun _ _ _ => False)
    (OwnFrom.and (OwnFrom.and (OwnFrom.and (Own.from (boxS_own _ _ (fun _ => _)) _) (Own.from (boxS_own _ _ (fun _ => _)) _)) (fun s X Y row hs hg hr => hs.kept hg (fun e => by have := (hr _ e.symm).1; omega))) (ownFrom_below (Nat.le_refl _) (by omega)))
    (fun _ _ _ _ _ hs _ _ => hs)
    ⟨⟨⟨bF5, bV5⟩, hown5⟩, hB5⟩
    (fun x a' V => ∃ Bx, BV < Bx ∧ BoxS V Bx 121 #[.int .i64 x.1.1, .int .i64 x.1.2] ∧ a' = { tmps := #[.agg #[.int .i64 full, .int .i64 read, .int .i64 slip, .int .i64 skew, .int .i64 circ, .int .i64 glo, .int .i64 ghi, .int .i64 wrn, .slice A ws.length c], .func (.func g) #[] #[], .pointer (some ⟨w.heap.size, 0, none⟩), .pointer (some ⟨w.heap.size + 1, 0, none⟩), .slice none 0 0, .pointer (some ⟨BV, 0, none⟩), .pointer (some ⟨Bx, 0, none⟩), .map (some BM), .agg #[.int .i64 full, .int .i64 read, .int .i64 slip, .int .i64 skew, .int .i64 circ, .int .i64 glo, .int .i64 ghi, .int .i64 wrn, .slice A ws.length c], .func (.func 109) #[.agg #[.int .i64 full, .int .i64 read, .int .i64 slip, .int .i64 skew, .int .i64 circ, .int .i64 glo, .int .i64 ghi, .int .i64 wrn, .slice A ws.length c]] #[], .agg #[.int .i64 x.1.1, .int .i64 x.1.2], undef, undef, undef, undef, undef, undef, undef], defers := [] })
    (fun x a' _ X Y row hs hg hr => by obtain ⟨Bx, e1, e2, e3⟩ := hs; exact ⟨Bx, e1, boxS_own Bx 121 (fun (_ : Unit) => #[.int .i64 x.1.1, .int .i64 x.1.2]) () X Y row e2 hg (fun r e => (hr r e).2), e3⟩)
    ?assign ?body ?done ?stop
  case assign =>
    rintro l2 pre x V K ⟨⟨⟨bF, bV⟩, hown⟩, hB⟩ hK
    unfold encTr
    gi_wp2
    exact hK _ _ (Apart.alloc _ _) ⟨⟨⟨bF.alloc _, bV.alloc _⟩, hown.alloc _⟩, hB.alloc hB.size _⟩ ⟨V.heap.size, bV.lt, BoxS.new V _ _, rfl⟩
  case body =>
    rintro l2 pre x a' V ⟨⟨⟨bF, bV⟩, hown⟩, hB⟩ ⟨Bx, hBx, bX, rfl⟩ hlt
    have hmo : Tryz.prog.follows .mixedOrders = true := by kernel_rfl
    have hmax : (500000 : Nat) < maxLen := by decide
    have q0 : Below V.heap.size V V.drew := (Below.refl _ _).drew
    have HO1 : Hid (∀ W, Calls Tryz.prog g #[.agg #[.int .i64 x.1.1, .int .i64 x.1.2]] W fun e w' => e = .returned (.int .i64 (f x.1)) ∧ Below W.heap.size W w') := fun W => HO.out x.1 W
    have KC : Hid (∀ V', Below V.heap.size V V' → V'.cell? ⟨w.heap.size + 1, 0, none⟩ = some (.func (.func g) #[] #[]) ∧ V'.cell? ⟨BV, 0, none⟩ = some (.map (some BM)) ∧ V'.cell? ⟨Bx, 0, none⟩ = some (.int .i64 x.1.1) ∧ V'.cell? ⟨Bx, 1, none⟩ = some (.int .i64 x.1.2)) :=
      fun V' h => ⟨(bF.below h).cell 0 rfl, (bV.below h).cell 0 rfl, (bX.below h).cell 0 rfl, (bX.below h).cell 1 rfl⟩
    have hBs := hB.size
    gi_wp2
    refine wpIn_region_held (fun V' => Below V.heap.size V V') 4 hmo ?_
    refine wpHeldIn_take (i := 0) (v := ?_) (plain_of (by kernel_rfl)) rfl (by kernel_rfl) (fun _ _ _ h => h) (yieldsSoIn_of (by kernel_rfl) ?_ (fun _ => rfl)) q0 ?_; rotate_left; focus (intro wq hw; have kq := KC.out wq hw; clear hw; go_simp; try (with_reducible rfl))
    refine wpHeldIn_take (i := 1) (v := ?_) (plain_of (by kernel_rfl)) rfl (by kernel_rfl) (fun _ _ _ h => h) (yieldsSoIn_of (by kernel_rfl) ?_ (fun _ => rfl)) q0 ?_; rotate_left; focus (intro wq hw; have kq := KC.out wq hw; clear hw; go_simp; try (with_reducible rfl))
    refine wpHeldIn_take (i := 2) (v := ?_) (plain_of (by kernel_rfl)) rfl (by kernel_rfl) (fun _ _ _ h => h) (yieldsSoIn_of (by kernel_rfl) ?_ (fun _ => rfl)) q0 ?_; rotate_left; focus (intro wq hw; have kq := KC.out wq hw; clear hw; go_simp; try (with_reducible rfl))
    refine wpHeldIn_one (i := 3) (by kernel_rfl) (by kernel_rfl) rfl (by kernel_rfl) (fun K1 hK1 => ?_)
    go_simp
    refine ⟨trivial, (CallsIn.inRound l2 (callsIn_wide.2 (HO1.out _))).mono ?_⟩
    rintro e V2 ⟨rfl, hb2⟩
    have q1 := q0.trans (hb2.mono q0.size)
    refine hK1 _ _ q1 ?_
    refine wpHeldIn_last (by kernel_rfl) rfl (by kernel_rfl) (fun K2 hK2 => ?_)
    refine wpIn_mapUpdate_at _ _ _ _  128 rfl 3 4 (Maps.int_keyed Tryz.underlying3) Tryz.underlying128 _ BM pre.length _ rfl (ownsMap_below hown q1) (by omega) _ _ _ rfl rfl (Maps.keyOf_int_mk Tryz.underlying3 (wf_small (HF.out x))) _ [] (plainElem_bool Tryz.underlying4 true) ?_
    intro V3 hown3 hg3
    refine hK2 _ _ ?_
    refine wpHeldIn_done (by kernel_rfl) ?_ _
    go_simp
    gi_wp2
    have hA3 : Apart w.heap.size w5.heap.size V V3 := (Apart.of_below q1).trans (Apart.grown hg3 (fun k e => by cases e; omega))
    exact ⟨hA3, ⟨⟨(bF.below q1).kept hg3 (by simp; omega), (bV.below q1).kept hg3 (by simp; omega)⟩, by rw [List.length_append, Wh.mapD_snoc]; exact hown3⟩, hB.trans (hA3.below hB.size)⟩
  case done =>
    rintro D0 zs V hD0 rfl ⟨⟨⟨bF, bV⟩, hown⟩, hB⟩ hK
    have v0 := bV.cell 0 rfl
    have hsz := hown.size_le
    have hmax : (500000 : Nat) < maxLen := by decide
    have HS := Lib.hid (sorted_call BM _ _ _ V hown (by omega) (by omega))
    have HKY : Hid (∀ W, Calls Tryz.prog 96 #[.map (some BM)] W fun e w' => e = .returned (.func (.func 114) #[] #[.pointer (some ⟨W.heap.size, 0, none⟩)]) ∧ w' = W.alloc (.cells #[.map (some BM)]  128)) := fun W => keys_call (some BM) W
    rw [show (intKeys (Wh.mapD (H := Empty) f zs)).mergeSort (fun x y => decide (x ≤ y)) = Wh.allL f zs from rfl] at HS
    generalize Wh.allL f zs = FL at *
    clear hown bF bV HSEQ hmm
    gi_wp2
    refine ⟨trivial, (callsIn_wide.2 (HKY.out _)).mono ?_⟩
    rintro e V2 ⟨rfl, rfl⟩
    gi_wp2
    refine ⟨trivial, (callsIn_wide.2 HS.out).mono ?_⟩
    rintro e V3 ⟨v, rfl, hrow, hnil, hb3⟩
    have q3 : Below V.heap.size V V3 := ((Below.refl _ V).alloc (Nat.le_refl _) _).trans (hb3.mono (by simp))
    have hK3 := heap_below q3 hK
    have hB3 := hB.trans (q3.mono hB.size)
    have hVs := hB.size
    gi_wp2
    refine ⟨by simp, .inl ⟨_, _, rfl, run_takeDeferred hK3, ?_⟩⟩
    refine ⟨v, by simp [results, Tryz.f85, go_sem], v, rfl, ?_, hnil, hB3.trans (belowK_b (w := w) (Nat.le_refl _) V3 D0 _ _ (by omega) hK3 rfl rfl)⟩
    have hDV := (Array.getElem?_eq_some_iff.1 hK).1
    exact ownsRow_put hrow _ (by simp; omega) (by simp; omega)
  case stop =>
    rintro D0 cc pre V hD0 hpre h hK
    exact h.elim
end Go.Proofs.YtkmacpkjobdffaaGreat
