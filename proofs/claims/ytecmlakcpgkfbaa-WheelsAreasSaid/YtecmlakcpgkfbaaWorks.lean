/- Wheels: the values of the law's own example. -/
import Derived.Test.YtecmlakcpgkfbaaWhC
import Derived.Test.YtecmlakcpgkfbaaWhT
import Derived.Test.YtecmlakcpgkfbaaWhW
namespace Go.Proofs.Ytecmlakcpgkfbaa
open Go.RowKit
def exD1 : Wh.Desk := ⟨100, 0, 0, 2, 0, 40, 60, 0, [(1, 1, 0, 10, 62)]⟩
theorem exD1_ok : Wh.okB exD1 = true := by decide +kernel
theorem exD1_ne : Wh.truthsL exD1 ≠ [] := by decide +kernel
theorem exD1_sp : Wh.spE exD1 = 0 := Wh.sp_yes exD1_ok exD1_ne
theorem exD1_len : (Wh.truthsL exD1).length = 5 := by decide +kernel
theorem exD1_w0 : Wh.worstV exD1 1 1 = 5 := by decide +kernel
theorem exD1_w1 : Wh.worstV exD1 1 (-1) = 1 := by decide +kernel
theorem exD1_next : Wh.nextV exD1 = (1, -1) := by
  unfold Wh.nextV
  rw [if_pos exD1_sp]
  decide +kernel
theorem exD1_many : Wh.manyV exD1 = 5 := by
  unfold Wh.manyV
  rw [exD1_sp, exD1_len]
  rfl
theorem exD_subE : Wh.tellsE exD 1 = 0 := by
  unfold Wh.tellsE
  rw [if_pos exD_ok, if_pos (by decide)]
  exact Wh.sp_yes (by decide +kernel) (by decide +kernel)
theorem exD_subV : Wh.tellsV exD 1 = [52, 53, 54, 55, 56] := by
  unfold Wh.tellsV
  rw [if_pos exD_ok, if_pos (by decide)]
  unfold Wh.areasV
  rw [if_pos (Wh.sp_yes (by decide +kernel) (by decide +kernel))]
  have h1 : ∀ t ∈ Wh.truthsL (Wh.subD exD (Int.toNat 1)), t.1.1 ∈ [(52 : Int), 53, 54, 55, 56] := by decide +kernel
  have h2 : ∀ x ∈ [(52 : Int), 53, 54, 55, 56], ∃ t ∈ Wh.truthsL (Wh.subD exD (Int.toNat 1)), t.1.1 = x := by decide +kernel
  refine Wh.all_eq _ _ (by decide) (fun x => ⟨h2 x, ?_⟩)
  rintro ⟨t, ht, rfl⟩
  exact h1 t ht
end Go.Proofs.Ytecmlakcpgkfbaa

namespace Go.Proofs.Ytecmlakcpgkfbaa
open Go.RowKit
def flat5 (k : Wh.Wk) : List Value := [.int .i64 k.1, .int .i64 k.2.1, .int .i64 k.2.2.1, .int .i64 k.2.2.2.1, .int .i64 k.2.2.2.2]
theorem flat5_one (k : Wh.Wk) : ∀ u ∈ flat5 k, u.oneCell' = true := by
  intro u hu
  unfold flat5 at hu
  simp at hu
  rcases hu with h | h | h | h | h <;> subst h <;> rfl
theorem reads5 {w : World} {b B : Nat} {t : TypeId} {k : Wh.Wk} (h : BoxS w b t (flat5 k).toArray) (hb : b < B) : Reads w B 5 (some ⟨b, 0, none⟩) 1 (flat5 k) := by
  refine ⟨rfl, fun _ => ⟨_, rfl, hb, fun j u hu => ?_⟩⟩
  have := h.cell j (v := u) (by simpa using hu)
  have e : (Addr.add ⟨b, 0, none⟩ j) = ⟨b, j, none⟩ := by unfold Addr.add; split <;> simp_all
  rw [e]
  exact this
theorem walk_info : (Try.prog.info? 54).map (fun i => (i.zero, i.size, i.bytes)) = some (some (.agg #[.int .i64 0, .int .i64 0, .int .i64 0, .int .i64 0, .int .i64 0]), 5, 40) := by kernel_rfl
theorem info_parts5 {o : Option TypeInfo} {z : Option Value} {n b : Nat} (h : o.map (fun i => (i.zero, i.size, i.bytes)) = some (z, n, b)) : ∃ i, o = some i ∧ i.zero = z ∧ i.size = n ∧ i.bytes = b := by
  cases o with
  | none => cases h
  | some i => simp at h; exact ⟨i, rfl, h.1, h.2.1, h.2.2⟩
section
variable {F : Fence} {n : Nat}
/-- 'append([]Walk{}, k)' in a held region: the new row holds the walk. -/
theorem wpIn_pushw {o : Oper} {a : Act} {K : Act → World → Prop} {Q : Exit → Act → World → Prop} {wr : World} (s y : Operand)
    (ho : o.op = .call { callee := .builtin .append, args := #[s, y], argTypes := #[26, 26] }) (k : Wh.Wk) (b0 b1 : Nat) (B : Nat) (hs : a.eval s = .slice (some ⟨b0, 0, none⟩) 0 0)
    (hx : a.eval y = .slice (some ⟨b1, 0, none⟩) 1 1) (h0 : BoxS wr b0 54 #[]) (h1 : BoxS wr b1 54 (flat5 k).toArray) (hB : B ≤ b0)
    (h : ∀ A' c' w', Wks w' w'.heap.size A' [k] → Below B wr w' → K (a.put o.dst (.slice A' 1 c')) w') :
    o.wpIn F n Try.prog a wr K Q := by
  obtain ⟨i0, hi0, hz0, hz1, hz2⟩ := info_parts5 walk_info
  have hown : wr.ownsRow b0 54 5 (.slice (some ⟨b0, 0, none⟩) 0 0) 0 [] := ⟨rfl, .inr ⟨b0, 0, #[], rfl, Nat.le_refl _, h0, Nat.le_refl _, by simp [maxLen], rfl, rfl⟩⟩
  have hlt0 := h0.lt
  have hlt1 := h1.lt
  obtain ⟨v', w', hrun, h2, h3, h4⟩ := run_append_any (P := Try.prog) wr b0 26 o.type 54 i0 (.agg #[.int .i64 0, .int .i64 0, .int .i64 0, .int .i64 0, .int .i64 0]) 5 40 Try.underlying26 hi0 hz0 hz1 hz2 rfl (by decide) (.slice (some ⟨b0, 0, none⟩) 0 0) 0 [] hown wr.heap.size (some ⟨b1, 0, none⟩) 1 1 (flat5 k) (reads5 h1 hlt1) (flat5_one k) (by simp only [maxLen]; omega) (by omega) (by omega)
  have hr : (execOp a.eval o).run Try.prog wr = .ok (.value v') w' := by
    unfold execOp
    simp only [ho, resolve, invoke, builtin, Sem.run_bind, Sem.run_pure, Result.andThen_ok, List.map_toArray, List.map_cons, List.map_nil, hs, hx, hrun]
  refine ⟨fun f hf => ?_, ?_⟩
  · unfold Oper.about at hf
    simp only [ho, resolve, Sem.run_pure] at hf
    cases hf
  · rw [Oper.semAt_eq _ _ _ (fun c hc => by rw [ho] at hc; cases hc), hr]
    rw [Nat.zero_add, List.nil_append] at h2
    obtain ⟨g, cap, hv, _, hgl⟩ := h2.form (by omega)
    subst hv
    refine h _ cap w' (fun _ => ⟨g, 0, rfl, hgl, fun j hj => ?_⟩) ((Below.refl B wr).grown h3 (by omega) (fun j hj => by
      have : j = b0 := by simpa [Value.ownBlock] using hj.symm
      omega))
    have : j = 0 := by simp at hj; omega
    subst this
    have hc := fun j hj => h2.cellAt j hj
    have e : Wh.wkAt [k] 0 = k := rfl
    rw [e]
    simp only [Nat.zero_mul, Nat.add_zero]
    exact ⟨hc 0 (by omega), hc 1 (by omega), hc 2 (by omega), hc 3 (by omega), hc 4 (by omega)⟩
end
end Go.Proofs.Ytecmlakcpgkfbaa

namespace Go.Proofs.Ytecmlakcpgkfbaa
open Go.RowKit
theorem ints_new (w : World) (l : List Int) : Ints (w.alloc (.cells (l.map (Value.int .i64)).toArray 3)) (w.alloc (.cells (l.map (Value.int .i64)).toArray 3)).heap.size (.slice (some ⟨w.heap.size, 0, none⟩) l.length l.length) l := by
  refine .inr ⟨w.heap.size, 0, _, rfl, by simp, fun k x hx => ?_⟩
  have := (BoxS.new w 3 (l.map (Value.int .i64)).toArray).cell k (v := .int .i64 x) (by simp [hx])
  simpa using this
set_option maxRecDepth 100000 in
set_option maxHeartbeats 2000000 in
theorem Example3c_any (w : World) : Calls Try.prog 48 #[] w fun e w' => ∃ A, e = .returned (.tuple #[.agg #[.int .i64 100, .int .i64 0, .int .i64 0, .int .i64 2, .int .i64 0, .int .i64 40, .int .i64 60, .int .i64 0], .slice A 2 2]) ∧ Hid (Wks w' w'.heap.size A exWs) ∧ Below w.heap.size w w' := by
  go_enter Try.func48, Try.ntmps48
  go_wp2_with fail
  refine bodyPost_ret (v := .tuple #[.agg #[.int .i64 100, .int .i64 0, .int .i64 0, .int .i64 2, .int .i64 0, .int .i64 40, .int .i64 60, .int .i64 0], .slice (some ⟨w.heap.size + 1, 0, none⟩) 2 2]) (by simp [results, Try.results48, go_sem]) rfl ?_
  have hb : BoxS ((w.alloc (.cells #[.int .i64 100, .int .i64 0, .int .i64 0, .int .i64 2, .int .i64 0, .int .i64 40, .int .i64 60, .int .i64 0] 25)).alloc (.cells #[.int .i64 1, .int .i64 1, .int .i64 0, .int .i64 10, .int .i64 62, .int .i64 1, .int .i64 (-1), .int .i64 0, .int .i64 62, .int .i64 16] 54)) (w.heap.size + 1) 54 #[.int .i64 1, .int .i64 1, .int .i64 0, .int .i64 10, .int .i64 62, .int .i64 1, .int .i64 (-1), .int .i64 0, .int .i64 62, .int .i64 16] := by
    have := BoxS.new (w.alloc (.cells #[.int .i64 100, .int .i64 0, .int .i64 0, .int .i64 2, .int .i64 0, .int .i64 40, .int .i64 60, .int .i64 0] 25)) 54 #[.int .i64 1, .int .i64 1, .int .i64 0, .int .i64 10, .int .i64 62, .int .i64 1, .int .i64 (-1), .int .i64 0, .int .i64 62, .int .i64 16]
    rw [World.size_alloc] at this
    exact this
  refine ⟨some ⟨w.heap.size + 1, 0, none⟩, rfl, fun _ => ⟨w.heap.size + 1, 0, rfl, by simp, fun k hk => ?_⟩, by (repeat' (first | (with_reducible exact Below.refl _ _) | (with_reducible assumption) | (with_reducible refine Below.alloc ?_ ?_ _) | (with_reducible refine Below.drew ?_) | (with_reducible refine Below.setCell ?_ ?_ _) | go_size | (exact (by simp)) | omega))⟩
  rcases k with _ | _ | k
  · exact ⟨hb.cell 0 rfl, hb.cell 1 rfl, hb.cell 2 rfl, hb.cell 3 rfl, hb.cell 4 rfl⟩
  · exact ⟨hb.cell 5 rfl, hb.cell 6 rfl, hb.cell 7 rfl, hb.cell 8 rfl, hb.cell 9 rfl⟩
  · simp [exWs] at hk
    omega
set_option maxRecDepth 100000 in
set_option maxHeartbeats 8000000 in
theorem works_any (w : World) : Calls Try.prog 13 #[] w fun e w' => e = .returned (.bool true) ∧ Below w.heap.size w w' := by
  have HE : Hid (∀ W, Calls Try.prog 48 #[] W fun e w' => ∃ A, e = .returned (.tuple #[.agg #[.int .i64 100, .int .i64 0, .int .i64 0, .int .i64 2, .int .i64 0, .int .i64 40, .int .i64 60, .int .i64 0], .slice A 2 2]) ∧ Hid (Wks w' w'.heap.size A exWs) ∧ Below W.heap.size W w') := Example3c_any
  have HM : Hid (∀ A c W, Wks W W.heap.size A [(1, 1, 0, 10, 62)] → Calls Try.prog 18 #[.agg #[.int .i64 100, .int .i64 0, .int .i64 0, .int .i64 2, .int .i64 0, .int .i64 40, .int .i64 60, .int .i64 0], .slice A 1 c] W (TwoPost 5 0 W)) := fun A c W hW => by
    have := Many_any exD1 A c W (by decide) hW
    rw [exD1_many, exD1_sp] at this
    exact this
  have HA : Hid (∀ A W, Wks W W.heap.size A exWs → Calls Try.prog 20 #[.agg #[.int .i64 100, .int .i64 0, .int .i64 0, .int .i64 2, .int .i64 0, .int .i64 40, .int .i64 60, .int .i64 0], .slice A 2 2] W (IntsEPost [53] 0 W)) := fun A W hW => by
    have := Areas_any exD A 2 W (by decide) hW
    rw [exD_areas, exD_sp] at this
    exact this
  have HT : Hid (∀ A W, Wks W W.heap.size A exWs → Calls Try.prog 43 #[.agg #[.int .i64 100, .int .i64 0, .int .i64 0, .int .i64 2, .int .i64 0, .int .i64 40, .int .i64 60, .int .i64 0], .slice A 2 2, .int .i64 1] W (IntsEPost [52, 53, 54, 55, 56] 0 W)) := fun A W hW => by
    have := Tells_any exD 1 A 2 W (by decide) (by decide) (by omega) hW
    rw [exD_subE, exD_subV] at this
    exact this
  have HN : Hid (∀ A c W, Wks W W.heap.size A [(1, 1, 0, 10, 62)] → Calls Try.prog 32 #[.agg #[.int .i64 100, .int .i64 0, .int .i64 0, .int .i64 2, .int .i64 0, .int .i64 40, .int .i64 60, .int .i64 0], .slice A 1 c] W fun e w' => e = .returned (.tuple #[.int .i64 1, .int .i64 (-1), .int .i64 0]) ∧ Below W.heap.size W w') := fun A c W hW => by
    have := Next_any exD1 A c W (by decide) hW
    rw [exD1_next, exD1_sp] at this
    exact this
  go_enter Try.func13, Try.ntmps13
  go_wp2_with fail
  refine (HE.out _).mono ?_
  rintro e w1 ⟨A, rfl, hW1, hb1⟩
  go_wp2_with fail
  have bW2 := BoxS.new w1 25 #[.int .i64 100, .int .i64 0, .int .i64 0, .int .i64 2, .int .i64 0, .int .i64 40, .int .i64 60, .int .i64 0]
  have hB2 : Below w.heap.size w (w1.alloc (.cells #[.int .i64 100, .int .i64 0, .int .i64 0, .int .i64 2, .int .i64 0, .int .i64 40, .int .i64 60, .int .i64 0] 25)) := hb1.alloc hb1.size _
  have hW2 : Wks (w1.alloc (.cells #[.int .i64 100, .int .i64 0, .int .i64 0, .int .i64 2, .int .i64 0, .int .i64 40, .int .i64 60, .int .i64 0] 25)) w1.heap.size A exWs := hW1.out.keep ((Below.refl _ _).alloc (Nat.le_refl _) _)
  have hz2 : w1.heap.size < (w1.alloc (.cells #[.int .i64 100, .int .i64 0, .int .i64 0, .int .i64 2, .int .i64 0, .int .i64 40, .int .i64 60, .int .i64 0] 25)).heap.size := by simp
  generalize World.alloc w1 _ = w2 at *
  have hW2' := hW2.wider (Nat.le_of_lt hz2)
  obtain ⟨b, off, rfl, hbl, hcc⟩ := hW2 (by decide)
  have c0 := hcc 0 (by decide)
  have KE2 : Hid (∀ W', Below w2.heap.size w2 W' → W'.cell? ⟨b, off, none⟩ = some (.int .i64 1) ∧ W'.cell? ⟨b, off + 1, none⟩ = some (.int .i64 1) ∧ W'.cell? ⟨b, off + 2, none⟩ = some (.int .i64 0) ∧ W'.cell? ⟨b, off + 3, none⟩ = some (.int .i64 10) ∧ W'.cell? ⟨b, off + 4, none⟩ = some (.int .i64 62)) := fun W' h => by
    have hb' : b < w2.heap.size := by omega
    rw [Nat.zero_mul, Nat.add_zero] at c0
    exact ⟨(h.cell (p := ⟨b, off, none⟩) hb').trans c0.1, (h.cell (p := ⟨b, off + 1, none⟩) hb').trans c0.2.1, (h.cell (p := ⟨b, off + 2, none⟩) hb').trans c0.2.2.1, (h.cell (p := ⟨b, off + 3, none⟩) hb').trans c0.2.2.2.1, (h.cell (p := ⟨b, off + 4, none⟩) hb').trans c0.2.2.2.2⟩
  clear c0 hcc
  refine (wpIn_wide (n := 4)).1 ?_
  have hmo : Try.prog.follows .mixedOrders = true := by kernel_rfl
  have q0 : Below w2.heap.size w2 w2.drew := (Below.refl _ _).drew
  have KC : Hid (∀ W', Below w2.heap.size w2 W' → ((W'.cell? ⟨w1.heap.size, 0, none⟩ = some (.int .i64 100) ∧ W'.cell? ⟨w1.heap.size, 1, none⟩ = some (.int .i64 0) ∧ W'.cell? ⟨w1.heap.size, 2, none⟩ = some (.int .i64 0)) ∧ W'.cell? ⟨w1.heap.size, 3, none⟩ = some (.int .i64 2) ∧ W'.cell? ⟨w1.heap.size, 4, none⟩ = some (.int .i64 0) ∧ W'.cell? ⟨w1.heap.size, 5, none⟩ = some (.int .i64 40)) ∧ W'.cell? ⟨w1.heap.size, 6, none⟩ = some (.int .i64 60) ∧ W'.cell? ⟨w1.heap.size, 7, none⟩ = some (.int .i64 0)) := fun W' h => boxS8 (bW2.below h)
  have KD : Hid (∀ W', Below w2.heap.size w2 W' → W'.cell? ⟨b, off, none⟩ = some (.int .i64 1) ∧ W'.cell? ⟨b, off + 1, none⟩ = some (.int .i64 1) ∧ W'.cell? ⟨b, off + 2, none⟩ = some (.int .i64 0) ∧ W'.cell? ⟨b, off + 3, none⟩ = some (.int .i64 10) ∧ W'.cell? ⟨b, off + 4, none⟩ = some (.int .i64 62)) := fun W' h => KE2.out W' h
  refine wpIn_region_held (fun W' => Below w2.heap.size w2 W') 40 hmo ?_
  refine wpHeldIn_take (i := 0) (v := ?_) (plain_of (by kernel_rfl)) rfl (by kernel_rfl) (fun _ _ _ h => h) (yieldsSoIn_of (by kernel_rfl) ?_ (fun _ => rfl)) q0 ?_; rotate_left; focus (intro wq hw; have kq := KC.out wq hw; clear hw; go_simp; try (with_reducible rfl))
  refine wpHeldIn_take (i := 2) (v := ?_) (plain_of (by kernel_rfl)) rfl (by kernel_rfl) (fun _ _ _ h => h) (yieldsSoIn_of (by kernel_rfl) ?_ (fun _ => rfl)) q0 ?_; rotate_left; focus (intro wq hw; clear hw; go_simp; try (with_reducible rfl))
  refine wpHeldIn_take (i := 3) (v := ?_) (plain_of (by kernel_rfl)) rfl (by kernel_rfl) (fun _ _ _ h => h) (yieldsSoIn_of (by kernel_rfl) ?_ (fun _ => rfl)) q0 ?_; rotate_left; focus (intro wq hw; clear hw; go_simp; try (with_reducible rfl))
  refine wpHeldIn_take (i := 4) (v := ?_) (plain_of (by kernel_rfl)) rfl (by kernel_rfl) (fun _ _ _ h => h) (yieldsSoIn_of (by kernel_rfl) ?_ (fun _ => rfl)) q0 ?_; rotate_left; focus (intro wq hw; have kq := KD.out wq hw; clear hw; go_simp; try (with_reducible rfl))
  refine wpHeldIn_two (i := 1) (j := 5) (by kernel_rfl) (by kernel_rfl) (by kernel_rfl) rfl rfl (by kernel_rfl) (by kernel_rfl) (fun K2 hK2 => ?_) (fun K2 hK2 => ?_)
  · go_simp
    refine hK2 _ _ (by (repeat' (first | (with_reducible exact Below.refl _ _) | (with_reducible assumption) | (with_reducible refine Below.alloc ?_ ?_ _) | (with_reducible refine Below.drew ?_) | (with_reducible refine Below.setCell ?_ ?_ _) | go_size | (exact (by simp)) | omega))) ?_
    refine wpHeldIn_one (i := 5) (by kernel_rfl) (by kernel_rfl) rfl (by kernel_rfl) (fun K3 hK3 => ?_)
    go_simp
    refine hK3 _ _ (by (repeat' (first | (with_reducible exact Below.refl _ _) | (with_reducible assumption) | (with_reducible refine Below.alloc ?_ ?_ _) | (with_reducible refine Below.drew ?_) | (with_reducible refine Below.setCell ?_ ?_ _) | go_size | (exact (by simp)) | omega))) ?_
    refine wpHeldIn_one (i := 6) (by kernel_rfl) (by kernel_rfl) rfl (by kernel_rfl) (fun K4 hK4 => ?_)
    have bx0 : BoxS (((w2.alloc (.cells #[] 54)).alloc (.cells #[.int .i64 1, .int .i64 1, .int .i64 0, .int .i64 10, .int .i64 62] 54)).drew) w2.heap.size 54 #[] := ((BoxS.new w2 54 #[]).alloc (.cells #[.int .i64 1, .int .i64 1, .int .i64 0, .int .i64 10, .int .i64 62] 54)).drew
    have bx1 : BoxS (((w2.alloc (.cells #[] 54)).alloc (.cells #[.int .i64 1, .int .i64 1, .int .i64 0, .int .i64 10, .int .i64 62] 54)).drew) (w2.heap.size + 1) 54 #[.int .i64 1, .int .i64 1, .int .i64 0, .int .i64 10, .int .i64 62] := by have := (BoxS.new (w2.alloc (.cells #[] 54)) 54 #[.int .i64 1, .int .i64 1, .int .i64 0, .int .i64 10, .int .i64 62]).drew; rw [World.size_alloc] at this; exact this
    refine wpIn_pushw (B := w2.heap.size) (.tmp 18) (.tmp 22) rfl (1, 1, 0, 10, 62) w2.heap.size (w2.heap.size + 1) rfl rfl bx0 bx1 (by omega) ?_
    rintro A2 c2 w5 hks hb5
    have q5 : Below w2.heap.size w2 w5 := Below.trans (show Below w2.heap.size w2 (((w2.alloc (.cells #[] 54)).alloc (.cells #[.int .i64 1, .int .i64 1, .int .i64 0, .int .i64 10, .int .i64 62] 54)).drew) from by (repeat' (first | (with_reducible exact Below.refl _ _) | (with_reducible assumption) | (with_reducible refine Below.alloc ?_ ?_ _) | (with_reducible refine Below.drew ?_) | (with_reducible refine Below.setCell ?_ ?_ _) | go_size | (exact (by simp)) | omega))) hb5
    refine hK4 _ _ q5 ?_
    refine wpHeldIn_one (i := 7) (by kernel_rfl) (by kernel_rfl) rfl (by kernel_rfl) (fun K5 hK5 => ?_)
    go_simp
    refine ⟨trivial, (callsIn_wide.2 (HM.out _ _ _ hks)).mono ?_⟩
    rintro e w6 ⟨rfl, hb6⟩
    have q6 := q5.trans (hb6.mono q5.size)
    refine hK5 _ _ q6 ?_
    refine wpHeldIn_take (i := 8) (v := ?_) (plain_of (by kernel_rfl)) rfl (by kernel_rfl) (fun _ _ _ h => h) (yieldsSoIn_of (by kernel_rfl) ?_ (fun _ => rfl)) q6 ?_; rotate_left; focus (intro wq hw; clear hw; go_simp; try (with_reducible rfl))
    refine wpHeldIn_take (i := 9) (v := ?_) (plain_of (by kernel_rfl)) rfl (by kernel_rfl) (fun _ _ _ h => h) (yieldsSoIn_of (by kernel_rfl) ?_ (fun _ => rfl)) q6 ?_; rotate_left; focus (intro wq hw; clear hw; go_simp; try (with_reducible rfl))
    refine wpHeldIn_take (i := 10) (v := ?_) (plain_of (by kernel_rfl)) rfl (by kernel_rfl) (fun _ _ _ h => h) (yieldsSoIn_of (by kernel_rfl) ?_ (fun _ => rfl)) q6 ?_; rotate_left; focus (intro wq hw; clear hw; go_simp; try (with_reducible rfl))
    refine wpHeldIn_take (i := 11) (v := ?_) (plain_of (by kernel_rfl)) rfl (by kernel_rfl) (fun _ _ _ h => h) (yieldsSoIn_of (by kernel_rfl) ?_ (fun _ => rfl)) q6 ?_; rotate_left; focus (intro wq hw; clear hw; go_simp; try (with_reducible rfl))
    refine wpHeldIn_take (i := 12) (v := ?_) (plain_of (by kernel_rfl)) rfl (by kernel_rfl) (fun _ _ _ h => h) (yieldsSoIn_of (by kernel_rfl) ?_ (fun _ => rfl)) q6 ?_; rotate_left; focus (intro wq hw; clear hw; go_simp; try (with_reducible rfl))
    refine wpHeldIn_done (by kernel_rfl) ?_ _
    go_simp
    have r6 := q6
    clear q0 q5 q6 hb5 hb6 bx0 bx1 hks hmo KC KD
    have hB6 := hB2.trans (r6.mono hB2.size)
    have bW6 := bW2.below r6
    have hW6 := (hW2'.keep r6).wider r6.size
    obtain ⟨⟨⟨d0, d1, d2⟩, d3, d4, d5⟩, d6, d7⟩ := boxS8 bW6
    go_wp2_with fail
    refine (HA.out _ _ hW6).mono ?_
    rintro e w7 ⟨v7, rfl, hi7, hb7⟩
    have hB7 := hB6.trans (hb7.mono hB6.size)
    have bW7 := bW6.below hb7
    have hW7 := (hW6.keep hb7).wider hb7.size
    clear d0 d1 d2 d3 d4 d5 d6 d7 bW6 hW6
    obtain ⟨⟨⟨d0, d1, d2⟩, d3, d4, d5⟩, d6, d7⟩ := boxS8 bW7
    go_wp2_with fail
    refine (HT.out _ _ hW7).mono ?_
    rintro e w8 ⟨v8, rfl, hi8, hb8⟩
    have hB8 := hB7.trans (hb8.mono hB7.size)
    have bW8 := bW7.below hb8
    have hi7' : Hid (Ints w8 w8.heap.size v7 [53]) := (hi7.out.keep hb8).more hb8.size
    have KE8 : Hid (∀ W', Below w8.heap.size w8 W' → W'.cell? ⟨b, off, none⟩ = some (.int .i64 1) ∧ W'.cell? ⟨b, off + 1, none⟩ = some (.int .i64 1) ∧ W'.cell? ⟨b, off + 2, none⟩ = some (.int .i64 0) ∧ W'.cell? ⟨b, off + 3, none⟩ = some (.int .i64 10) ∧ W'.cell? ⟨b, off + 4, none⟩ = some (.int .i64 62)) := fun W' h => KE2.out W' ((r6.trans (hb7.mono r6.size)).trans ((hb8.mono (Nat.le_trans r6.size hb7.size)).trans (h.mono (Nat.le_trans r6.size (Nat.le_trans hb7.size hb8.size)))))
    clear d0 d1 d2 d3 d4 d5 d6 d7 bW7 hW7 hb7 hb8 hi7
    go_wp2_with fail
    refine (wpIn_wide (n := 4)).1 ?_
    have hmo : Try.prog.follows .mixedOrders = true := by kernel_rfl
    have q0 : Below w8.heap.size w8 w8.drew := (Below.refl _ _).drew
    have KC : Hid (∀ W', Below w8.heap.size w8 W' → ((W'.cell? ⟨w1.heap.size, 0, none⟩ = some (.int .i64 100) ∧ W'.cell? ⟨w1.heap.size, 1, none⟩ = some (.int .i64 0) ∧ W'.cell? ⟨w1.heap.size, 2, none⟩ = some (.int .i64 0)) ∧ W'.cell? ⟨w1.heap.size, 3, none⟩ = some (.int .i64 2) ∧ W'.cell? ⟨w1.heap.size, 4, none⟩ = some (.int .i64 0) ∧ W'.cell? ⟨w1.heap.size, 5, none⟩ = some (.int .i64 40)) ∧ W'.cell? ⟨w1.heap.size, 6, none⟩ = some (.int .i64 60) ∧ W'.cell? ⟨w1.heap.size, 7, none⟩ = some (.int .i64 0)) := fun W' h => boxS8 (bW8.below h)
    have KD : Hid (∀ W', Below w8.heap.size w8 W' → W'.cell? ⟨b, off, none⟩ = some (.int .i64 1) ∧ W'.cell? ⟨b, off + 1, none⟩ = some (.int .i64 1) ∧ W'.cell? ⟨b, off + 2, none⟩ = some (.int .i64 0) ∧ W'.cell? ⟨b, off + 3, none⟩ = some (.int .i64 10) ∧ W'.cell? ⟨b, off + 4, none⟩ = some (.int .i64 62)) := fun W' h => KE8.out W' h
    refine wpIn_region_held (fun W' => Below w8.heap.size w8 W') 40 hmo ?_
    refine wpHeldIn_take (i := 0) (v := ?_) (plain_of (by kernel_rfl)) rfl (by kernel_rfl) (fun _ _ _ h => h) (yieldsSoIn_of (by kernel_rfl) ?_ (fun _ => rfl)) q0 ?_; rotate_left; focus (intro wq hw; have kq := KC.out wq hw; clear hw; go_simp; try (with_reducible rfl))
    refine wpHeldIn_take (i := 2) (v := ?_) (plain_of (by kernel_rfl)) rfl (by kernel_rfl) (fun _ _ _ h => h) (yieldsSoIn_of (by kernel_rfl) ?_ (fun _ => rfl)) q0 ?_; rotate_left; focus (intro wq hw; clear hw; go_simp; try (with_reducible rfl))
    refine wpHeldIn_take (i := 3) (v := ?_) (plain_of (by kernel_rfl)) rfl (by kernel_rfl) (fun _ _ _ h => h) (yieldsSoIn_of (by kernel_rfl) ?_ (fun _ => rfl)) q0 ?_; rotate_left; focus (intro wq hw; clear hw; go_simp; try (with_reducible rfl))
    refine wpHeldIn_take (i := 4) (v := ?_) (plain_of (by kernel_rfl)) rfl (by kernel_rfl) (fun _ _ _ h => h) (yieldsSoIn_of (by kernel_rfl) ?_ (fun _ => rfl)) q0 ?_; rotate_left; focus (intro wq hw; have kq := KD.out wq hw; clear hw; go_simp; try (with_reducible rfl))
    refine wpHeldIn_two (i := 1) (j := 5) (by kernel_rfl) (by kernel_rfl) (by kernel_rfl) rfl rfl (by kernel_rfl) (by kernel_rfl) (fun K2 hK2 => ?_) (fun K2 hK2 => ?_)
    · go_simp
      refine hK2 _ _ (by (repeat' (first | (with_reducible exact Below.refl _ _) | (with_reducible assumption) | (with_reducible refine Below.alloc ?_ ?_ _) | (with_reducible refine Below.drew ?_) | (with_reducible refine Below.setCell ?_ ?_ _) | go_size | (exact (by simp)) | omega))) ?_
      refine wpHeldIn_one (i := 5) (by kernel_rfl) (by kernel_rfl) rfl (by kernel_rfl) (fun K3 hK3 => ?_)
      go_simp
      refine hK3 _ _ (by (repeat' (first | (with_reducible exact Below.refl _ _) | (with_reducible assumption) | (with_reducible refine Below.alloc ?_ ?_ _) | (with_reducible refine Below.drew ?_) | (with_reducible refine Below.setCell ?_ ?_ _) | go_size | (exact (by simp)) | omega))) ?_
      refine wpHeldIn_one (i := 6) (by kernel_rfl) (by kernel_rfl) rfl (by kernel_rfl) (fun K4 hK4 => ?_)
      have bx0 : BoxS (((w8.alloc (.cells #[] 54)).alloc (.cells #[.int .i64 1, .int .i64 1, .int .i64 0, .int .i64 10, .int .i64 62] 54)).drew) w8.heap.size 54 #[] := ((BoxS.new w8 54 #[]).alloc (.cells #[.int .i64 1, .int .i64 1, .int .i64 0, .int .i64 10, .int .i64 62] 54)).drew
      have bx1 : BoxS (((w8.alloc (.cells #[] 54)).alloc (.cells #[.int .i64 1, .int .i64 1, .int .i64 0, .int .i64 10, .int .i64 62] 54)).drew) (w8.heap.size + 1) 54 #[.int .i64 1, .int .i64 1, .int .i64 0, .int .i64 10, .int .i64 62] := by have := (BoxS.new (w8.alloc (.cells #[] 54)) 54 #[.int .i64 1, .int .i64 1, .int .i64 0, .int .i64 10, .int .i64 62]).drew; rw [World.size_alloc] at this; exact this
      refine wpIn_pushw (B := w8.heap.size) (.tmp 41) (.tmp 45) rfl (1, 1, 0, 10, 62) w8.heap.size (w8.heap.size + 1) rfl rfl bx0 bx1 (by omega) ?_
      rintro A8 c8 w5 hks hb5
      have q5 : Below w8.heap.size w8 w5 := Below.trans (show Below w8.heap.size w8 (((w8.alloc (.cells #[] 54)).alloc (.cells #[.int .i64 1, .int .i64 1, .int .i64 0, .int .i64 10, .int .i64 62] 54)).drew) from by (repeat' (first | (with_reducible exact Below.refl _ _) | (with_reducible assumption) | (with_reducible refine Below.alloc ?_ ?_ _) | (with_reducible refine Below.drew ?_) | (with_reducible refine Below.setCell ?_ ?_ _) | go_size | (exact (by simp)) | omega))) hb5
      refine hK4 _ _ q5 ?_
      refine wpHeldIn_one (i := 7) (by kernel_rfl) (by kernel_rfl) rfl (by kernel_rfl) (fun K5 hK5 => ?_)
      go_simp
      refine ⟨trivial, (callsIn_wide.2 (HN.out _ _ _ hks)).mono ?_⟩
      rintro e w6 ⟨rfl, hb6⟩
      have q6 := q5.trans (hb6.mono q5.size)
      refine hK5 _ _ q6 ?_
      refine wpHeldIn_take (i := 8) (v := ?_) (plain_of (by kernel_rfl)) rfl (by kernel_rfl) (fun _ _ _ h => h) (yieldsSoIn_of (by kernel_rfl) ?_ (fun _ => rfl)) q6 ?_; rotate_left; focus (intro wq hw; clear hw; go_simp; try (with_reducible rfl))
      refine wpHeldIn_take (i := 9) (v := ?_) (plain_of (by kernel_rfl)) rfl (by kernel_rfl) (fun _ _ _ h => h) (yieldsSoIn_of (by kernel_rfl) ?_ (fun _ => rfl)) q6 ?_; rotate_left; focus (intro wq hw; clear hw; go_simp; try (with_reducible rfl))
      refine wpHeldIn_take (i := 10) (v := ?_) (plain_of (by kernel_rfl)) rfl (by kernel_rfl) (fun _ _ _ h => h) (yieldsSoIn_of (by kernel_rfl) ?_ (fun _ => rfl)) q6 ?_; rotate_left; focus (intro wq hw; clear hw; go_simp; try (with_reducible rfl))
      refine wpHeldIn_take (i := 11) (v := ?_) (plain_of (by kernel_rfl)) rfl (by kernel_rfl) (fun _ _ _ h => h) (yieldsSoIn_of (by kernel_rfl) ?_ (fun _ => rfl)) q6 ?_; rotate_left; focus (intro wq hw; clear hw; go_simp; try (with_reducible rfl))
      refine wpHeldIn_take (i := 12) (v := ?_) (plain_of (by kernel_rfl)) rfl (by kernel_rfl) (fun _ _ _ h => h) (yieldsSoIn_of (by kernel_rfl) ?_ (fun _ => rfl)) q6 ?_; rotate_left; focus (intro wq hw; clear hw; go_simp; try (with_reducible rfl))
      refine wpHeldIn_take (i := 13) (v := ?_) (plain_of (by kernel_rfl)) rfl (by kernel_rfl) (fun _ _ _ h => h) (yieldsSoIn_of (by kernel_rfl) ?_ (fun _ => rfl)) q6 ?_; rotate_left; focus (intro wq hw; clear hw; go_simp; try (with_reducible rfl))
      refine wpHeldIn_take (i := 14) (v := ?_) (plain_of (by kernel_rfl)) rfl (by kernel_rfl) (fun _ _ _ h => h) (yieldsSoIn_of (by kernel_rfl) ?_ (fun _ => rfl)) q6 ?_; rotate_left; focus (intro wq hw; clear hw; go_simp; try (with_reducible rfl))
      refine wpHeldIn_done (by kernel_rfl) ?_ _
      go_simp
      have r6 := q6
      clear q0 q5 q6 hb5 hb6 bx0 bx1 hks hmo KC KD
      have hB9 := hB8.trans (r6.mono hB8.size)
      have hi7b : Hid (Ints w6 w6.heap.size v7 [53]) := (hi7'.out.keep r6).more r6.size
      have hi8b : Hid (Ints w6 w6.heap.size v8 [52, 53, 54, 55, 56]) := (hi8.out.keep r6).more r6.size
      clear hi7' hi8 r6 KE8 KE2 bW8 bW2
      go_wp2_with fail
      have q1 : Below w6.heap.size w6 (w6.alloc (.cells #[.int .i64 53] 3)) := (Below.refl _ _).alloc (Nat.le_refl _) _
      refine (SameInts_any _ _ [53] [53] _ ((hi7b.out.keep q1).more q1.size) (ints_new w6 [53]) (by decide) (by decide)).mono ?_
      rintro e w10 ⟨rfl, hb10⟩
      have q2 := q1.trans (hb10.mono q1.size)
      have hB10 := hB9.trans (q2.mono hB9.size)
      have hi8c : Hid (Ints w10 w10.heap.size v8 [52, 53, 54, 55, 56]) := (hi8b.out.keep q2).more q2.size
      clear hi7b hi8b q1 q2 hb10
      go_wp2_with fail
      have q1 : Below w10.heap.size w10 (w10.alloc (.cells #[.int .i64 52, .int .i64 53, .int .i64 54, .int .i64 55, .int .i64 56] 3)) := (Below.refl _ _).alloc (Nat.le_refl _) _
      refine (SameInts_any _ _ [52, 53, 54, 55, 56] [52, 53, 54, 55, 56] _ ((hi8c.out.keep q1).more q1.size) (ints_new w10 [52, 53, 54, 55, 56]) (by decide) (by decide)).mono ?_
      rintro e w11 ⟨rfl, hb11⟩
      have q2 := q1.trans (hb11.mono q1.size)
      have hB11 := hB10.trans (q2.mono hB10.size)
      clear hi8c q1 q2 hb11
      go_wp2_with fail
      go_returns
      exact ⟨rfl, hB11⟩
    · go_simp
      refine hK2 _ _ (by (repeat' (first | (with_reducible exact Below.refl _ _) | (with_reducible assumption) | (with_reducible refine Below.alloc ?_ ?_ _) | (with_reducible refine Below.drew ?_) | (with_reducible refine Below.setCell ?_ ?_ _) | go_size | (exact (by simp)) | omega))) ?_
      refine wpHeldIn_one (i := 1) (by kernel_rfl) (by kernel_rfl) rfl (by kernel_rfl) (fun K3 hK3 => ?_)
      go_simp
      refine hK3 _ _ (by (repeat' (first | (with_reducible exact Below.refl _ _) | (with_reducible assumption) | (with_reducible refine Below.alloc ?_ ?_ _) | (with_reducible refine Below.drew ?_) | (with_reducible refine Below.setCell ?_ ?_ _) | go_size | (exact (by simp)) | omega))) ?_
      refine wpHeldIn_one (i := 6) (by kernel_rfl) (by kernel_rfl) rfl (by kernel_rfl) (fun K4 hK4 => ?_)
      have bx0 : BoxS (((w8.alloc (.cells #[.int .i64 1, .int .i64 1, .int .i64 0, .int .i64 10, .int .i64 62] 54)).alloc (.cells #[] 54)).drew) (w8.heap.size + 1) 54 #[] := by have := (BoxS.new (w8.alloc (.cells #[.int .i64 1, .int .i64 1, .int .i64 0, .int .i64 10, .int .i64 62] 54)) 54 #[]).drew; rw [World.size_alloc] at this; exact this
      have bx1 : BoxS (((w8.alloc (.cells #[.int .i64 1, .int .i64 1, .int .i64 0, .int .i64 10, .int .i64 62] 54)).alloc (.cells #[] 54)).drew) w8.heap.size 54 #[.int .i64 1, .int .i64 1, .int .i64 0, .int .i64 10, .int .i64 62] := ((BoxS.new w8 54 #[.int .i64 1, .int .i64 1, .int .i64 0, .int .i64 10, .int .i64 62]).alloc (.cells #[] 54)).drew
      refine wpIn_pushw (B := w8.heap.size) (.tmp 41) (.tmp 45) rfl (1, 1, 0, 10, 62) (w8.heap.size + 1) w8.heap.size rfl rfl bx0 bx1 (by omega) ?_
      rintro A8 c8 w5 hks hb5
      have q5 : Below w8.heap.size w8 w5 := Below.trans (show Below w8.heap.size w8 (((w8.alloc (.cells #[.int .i64 1, .int .i64 1, .int .i64 0, .int .i64 10, .int .i64 62] 54)).alloc (.cells #[] 54)).drew) from by (repeat' (first | (with_reducible exact Below.refl _ _) | (with_reducible assumption) | (with_reducible refine Below.alloc ?_ ?_ _) | (with_reducible refine Below.drew ?_) | (with_reducible refine Below.setCell ?_ ?_ _) | go_size | (exact (by simp)) | omega))) hb5
      refine hK4 _ _ q5 ?_
      refine wpHeldIn_one (i := 7) (by kernel_rfl) (by kernel_rfl) rfl (by kernel_rfl) (fun K5 hK5 => ?_)
      go_simp
      refine ⟨trivial, (callsIn_wide.2 (HN.out _ _ _ hks)).mono ?_⟩
      rintro e w6 ⟨rfl, hb6⟩
      have q6 := q5.trans (hb6.mono q5.size)
      refine hK5 _ _ q6 ?_
      refine wpHeldIn_take (i := 8) (v := ?_) (plain_of (by kernel_rfl)) rfl (by kernel_rfl) (fun _ _ _ h => h) (yieldsSoIn_of (by kernel_rfl) ?_ (fun _ => rfl)) q6 ?_; rotate_left; focus (intro wq hw; clear hw; go_simp; try (with_reducible rfl))
      refine wpHeldIn_take (i := 9) (v := ?_) (plain_of (by kernel_rfl)) rfl (by kernel_rfl) (fun _ _ _ h => h) (yieldsSoIn_of (by kernel_rfl) ?_ (fun _ => rfl)) q6 ?_; rotate_left; focus (intro wq hw; clear hw; go_simp; try (with_reducible rfl))
      refine wpHeldIn_take (i := 10) (v := ?_) (plain_of (by kernel_rfl)) rfl (by kernel_rfl) (fun _ _ _ h => h) (yieldsSoIn_of (by kernel_rfl) ?_ (fun _ => rfl)) q6 ?_; rotate_left; focus (intro wq hw; clear hw; go_simp; try (with_reducible rfl))
      refine wpHeldIn_take (i := 11) (v := ?_) (plain_of (by kernel_rfl)) rfl (by kernel_rfl) (fun _ _ _ h => h) (yieldsSoIn_of (by kernel_rfl) ?_ (fun _ => rfl)) q6 ?_; rotate_left; focus (intro wq hw; clear hw; go_simp; try (with_reducible rfl))
      refine wpHeldIn_take (i := 12) (v := ?_) (plain_of (by kernel_rfl)) rfl (by kernel_rfl) (fun _ _ _ h => h) (yieldsSoIn_of (by kernel_rfl) ?_ (fun _ => rfl)) q6 ?_; rotate_left; focus (intro wq hw; clear hw; go_simp; try (with_reducible rfl))
      refine wpHeldIn_take (i := 13) (v := ?_) (plain_of (by kernel_rfl)) rfl (by kernel_rfl) (fun _ _ _ h => h) (yieldsSoIn_of (by kernel_rfl) ?_ (fun _ => rfl)) q6 ?_; rotate_left; focus (intro wq hw; clear hw; go_simp; try (with_reducible rfl))
      refine wpHeldIn_take (i := 14) (v := ?_) (plain_of (by kernel_rfl)) rfl (by kernel_rfl) (fun _ _ _ h => h) (yieldsSoIn_of (by kernel_rfl) ?_ (fun _ => rfl)) q6 ?_; rotate_left; focus (intro wq hw; clear hw; go_simp; try (with_reducible rfl))
      refine wpHeldIn_done (by kernel_rfl) ?_ _
      go_simp
      have r6 := q6
      clear q0 q5 q6 hb5 hb6 bx0 bx1 hks hmo KC KD
      have hB9 := hB8.trans (r6.mono hB8.size)
      have hi7b : Hid (Ints w6 w6.heap.size v7 [53]) := (hi7'.out.keep r6).more r6.size
      have hi8b : Hid (Ints w6 w6.heap.size v8 [52, 53, 54, 55, 56]) := (hi8.out.keep r6).more r6.size
      clear hi7' hi8 r6 KE8 KE2 bW8 bW2
      go_wp2_with fail
      have q1 : Below w6.heap.size w6 (w6.alloc (.cells #[.int .i64 53] 3)) := (Below.refl _ _).alloc (Nat.le_refl _) _
      refine (SameInts_any _ _ [53] [53] _ ((hi7b.out.keep q1).more q1.size) (ints_new w6 [53]) (by decide) (by decide)).mono ?_
      rintro e w10 ⟨rfl, hb10⟩
      have q2 := q1.trans (hb10.mono q1.size)
      have hB10 := hB9.trans (q2.mono hB9.size)
      have hi8c : Hid (Ints w10 w10.heap.size v8 [52, 53, 54, 55, 56]) := (hi8b.out.keep q2).more q2.size
      clear hi7b hi8b q1 q2 hb10
      go_wp2_with fail
      have q1 : Below w10.heap.size w10 (w10.alloc (.cells #[.int .i64 52, .int .i64 53, .int .i64 54, .int .i64 55, .int .i64 56] 3)) := (Below.refl _ _).alloc (Nat.le_refl _) _
      refine (SameInts_any _ _ [52, 53, 54, 55, 56] [52, 53, 54, 55, 56] _ ((hi8c.out.keep q1).more q1.size) (ints_new w10 [52, 53, 54, 55, 56]) (by decide) (by decide)).mono ?_
      rintro e w11 ⟨rfl, hb11⟩
      have q2 := q1.trans (hb11.mono q1.size)
      have hB11 := hB10.trans (q2.mono hB10.size)
      clear hi8c q1 q2 hb11
      go_wp2_with fail
      go_returns
      exact ⟨rfl, hB11⟩
  · go_simp
    refine hK2 _ _ (by (repeat' (first | (with_reducible exact Below.refl _ _) | (with_reducible assumption) | (with_reducible refine Below.alloc ?_ ?_ _) | (with_reducible refine Below.drew ?_) | (with_reducible refine Below.setCell ?_ ?_ _) | go_size | (exact (by simp)) | omega))) ?_
    refine wpHeldIn_one (i := 1) (by kernel_rfl) (by kernel_rfl) rfl (by kernel_rfl) (fun K3 hK3 => ?_)
    go_simp
    refine hK3 _ _ (by (repeat' (first | (with_reducible exact Below.refl _ _) | (with_reducible assumption) | (with_reducible refine Below.alloc ?_ ?_ _) | (with_reducible refine Below.drew ?_) | (with_reducible refine Below.setCell ?_ ?_ _) | go_size | (exact (by simp)) | omega))) ?_
    refine wpHeldIn_one (i := 6) (by kernel_rfl) (by kernel_rfl) rfl (by kernel_rfl) (fun K4 hK4 => ?_)
    have bx0 : BoxS (((w2.alloc (.cells #[.int .i64 1, .int .i64 1, .int .i64 0, .int .i64 10, .int .i64 62] 54)).alloc (.cells #[] 54)).drew) (w2.heap.size + 1) 54 #[] := by have := (BoxS.new (w2.alloc (.cells #[.int .i64 1, .int .i64 1, .int .i64 0, .int .i64 10, .int .i64 62] 54)) 54 #[]).drew; rw [World.size_alloc] at this; exact this
    have bx1 : BoxS (((w2.alloc (.cells #[.int .i64 1, .int .i64 1, .int .i64 0, .int .i64 10, .int .i64 62] 54)).alloc (.cells #[] 54)).drew) w2.heap.size 54 #[.int .i64 1, .int .i64 1, .int .i64 0, .int .i64 10, .int .i64 62] := ((BoxS.new w2 54 #[.int .i64 1, .int .i64 1, .int .i64 0, .int .i64 10, .int .i64 62]).alloc (.cells #[] 54)).drew
    refine wpIn_pushw (B := w2.heap.size) (.tmp 18) (.tmp 22) rfl (1, 1, 0, 10, 62) (w2.heap.size + 1) w2.heap.size rfl rfl bx0 bx1 (by omega) ?_
    rintro A2 c2 w5 hks hb5
    have q5 : Below w2.heap.size w2 w5 := Below.trans (show Below w2.heap.size w2 (((w2.alloc (.cells #[.int .i64 1, .int .i64 1, .int .i64 0, .int .i64 10, .int .i64 62] 54)).alloc (.cells #[] 54)).drew) from by (repeat' (first | (with_reducible exact Below.refl _ _) | (with_reducible assumption) | (with_reducible refine Below.alloc ?_ ?_ _) | (with_reducible refine Below.drew ?_) | (with_reducible refine Below.setCell ?_ ?_ _) | go_size | (exact (by simp)) | omega))) hb5
    refine hK4 _ _ q5 ?_
    refine wpHeldIn_one (i := 7) (by kernel_rfl) (by kernel_rfl) rfl (by kernel_rfl) (fun K5 hK5 => ?_)
    go_simp
    refine ⟨trivial, (callsIn_wide.2 (HM.out _ _ _ hks)).mono ?_⟩
    rintro e w6 ⟨rfl, hb6⟩
    have q6 := q5.trans (hb6.mono q5.size)
    refine hK5 _ _ q6 ?_
    refine wpHeldIn_take (i := 8) (v := ?_) (plain_of (by kernel_rfl)) rfl (by kernel_rfl) (fun _ _ _ h => h) (yieldsSoIn_of (by kernel_rfl) ?_ (fun _ => rfl)) q6 ?_; rotate_left; focus (intro wq hw; clear hw; go_simp; try (with_reducible rfl))
    refine wpHeldIn_take (i := 9) (v := ?_) (plain_of (by kernel_rfl)) rfl (by kernel_rfl) (fun _ _ _ h => h) (yieldsSoIn_of (by kernel_rfl) ?_ (fun _ => rfl)) q6 ?_; rotate_left; focus (intro wq hw; clear hw; go_simp; try (with_reducible rfl))
    refine wpHeldIn_take (i := 10) (v := ?_) (plain_of (by kernel_rfl)) rfl (by kernel_rfl) (fun _ _ _ h => h) (yieldsSoIn_of (by kernel_rfl) ?_ (fun _ => rfl)) q6 ?_; rotate_left; focus (intro wq hw; clear hw; go_simp; try (with_reducible rfl))
    refine wpHeldIn_take (i := 11) (v := ?_) (plain_of (by kernel_rfl)) rfl (by kernel_rfl) (fun _ _ _ h => h) (yieldsSoIn_of (by kernel_rfl) ?_ (fun _ => rfl)) q6 ?_; rotate_left; focus (intro wq hw; clear hw; go_simp; try (with_reducible rfl))
    refine wpHeldIn_take (i := 12) (v := ?_) (plain_of (by kernel_rfl)) rfl (by kernel_rfl) (fun _ _ _ h => h) (yieldsSoIn_of (by kernel_rfl) ?_ (fun _ => rfl)) q6 ?_; rotate_left; focus (intro wq hw; clear hw; go_simp; try (with_reducible rfl))
    refine wpHeldIn_done (by kernel_rfl) ?_ _
    go_simp
    have r6 := q6
    clear q0 q5 q6 hb5 hb6 bx0 bx1 hks hmo KC KD
    have hB6 := hB2.trans (r6.mono hB2.size)
    have bW6 := bW2.below r6
    have hW6 := (hW2'.keep r6).wider r6.size
    obtain ⟨⟨⟨d0, d1, d2⟩, d3, d4, d5⟩, d6, d7⟩ := boxS8 bW6
    go_wp2_with fail
    refine (HA.out _ _ hW6).mono ?_
    rintro e w7 ⟨v7, rfl, hi7, hb7⟩
    have hB7 := hB6.trans (hb7.mono hB6.size)
    have bW7 := bW6.below hb7
    have hW7 := (hW6.keep hb7).wider hb7.size
    clear d0 d1 d2 d3 d4 d5 d6 d7 bW6 hW6
    obtain ⟨⟨⟨d0, d1, d2⟩, d3, d4, d5⟩, d6, d7⟩ := boxS8 bW7
    go_wp2_with fail
    refine (HT.out _ _ hW7).mono ?_
    rintro e w8 ⟨v8, rfl, hi8, hb8⟩
    have hB8 := hB7.trans (hb8.mono hB7.size)
    have bW8 := bW7.below hb8
    have hi7' : Hid (Ints w8 w8.heap.size v7 [53]) := (hi7.out.keep hb8).more hb8.size
    have KE8 : Hid (∀ W', Below w8.heap.size w8 W' → W'.cell? ⟨b, off, none⟩ = some (.int .i64 1) ∧ W'.cell? ⟨b, off + 1, none⟩ = some (.int .i64 1) ∧ W'.cell? ⟨b, off + 2, none⟩ = some (.int .i64 0) ∧ W'.cell? ⟨b, off + 3, none⟩ = some (.int .i64 10) ∧ W'.cell? ⟨b, off + 4, none⟩ = some (.int .i64 62)) := fun W' h => KE2.out W' ((r6.trans (hb7.mono r6.size)).trans ((hb8.mono (Nat.le_trans r6.size hb7.size)).trans (h.mono (Nat.le_trans r6.size (Nat.le_trans hb7.size hb8.size)))))
    clear d0 d1 d2 d3 d4 d5 d6 d7 bW7 hW7 hb7 hb8 hi7
    go_wp2_with fail
    refine (wpIn_wide (n := 4)).1 ?_
    have hmo : Try.prog.follows .mixedOrders = true := by kernel_rfl
    have q0 : Below w8.heap.size w8 w8.drew := (Below.refl _ _).drew
    have KC : Hid (∀ W', Below w8.heap.size w8 W' → ((W'.cell? ⟨w1.heap.size, 0, none⟩ = some (.int .i64 100) ∧ W'.cell? ⟨w1.heap.size, 1, none⟩ = some (.int .i64 0) ∧ W'.cell? ⟨w1.heap.size, 2, none⟩ = some (.int .i64 0)) ∧ W'.cell? ⟨w1.heap.size, 3, none⟩ = some (.int .i64 2) ∧ W'.cell? ⟨w1.heap.size, 4, none⟩ = some (.int .i64 0) ∧ W'.cell? ⟨w1.heap.size, 5, none⟩ = some (.int .i64 40)) ∧ W'.cell? ⟨w1.heap.size, 6, none⟩ = some (.int .i64 60) ∧ W'.cell? ⟨w1.heap.size, 7, none⟩ = some (.int .i64 0)) := fun W' h => boxS8 (bW8.below h)
    have KD : Hid (∀ W', Below w8.heap.size w8 W' → W'.cell? ⟨b, off, none⟩ = some (.int .i64 1) ∧ W'.cell? ⟨b, off + 1, none⟩ = some (.int .i64 1) ∧ W'.cell? ⟨b, off + 2, none⟩ = some (.int .i64 0) ∧ W'.cell? ⟨b, off + 3, none⟩ = some (.int .i64 10) ∧ W'.cell? ⟨b, off + 4, none⟩ = some (.int .i64 62)) := fun W' h => KE8.out W' h
    refine wpIn_region_held (fun W' => Below w8.heap.size w8 W') 40 hmo ?_
    refine wpHeldIn_take (i := 0) (v := ?_) (plain_of (by kernel_rfl)) rfl (by kernel_rfl) (fun _ _ _ h => h) (yieldsSoIn_of (by kernel_rfl) ?_ (fun _ => rfl)) q0 ?_; rotate_left; focus (intro wq hw; have kq := KC.out wq hw; clear hw; go_simp; try (with_reducible rfl))
    refine wpHeldIn_take (i := 2) (v := ?_) (plain_of (by kernel_rfl)) rfl (by kernel_rfl) (fun _ _ _ h => h) (yieldsSoIn_of (by kernel_rfl) ?_ (fun _ => rfl)) q0 ?_; rotate_left; focus (intro wq hw; clear hw; go_simp; try (with_reducible rfl))
    refine wpHeldIn_take (i := 3) (v := ?_) (plain_of (by kernel_rfl)) rfl (by kernel_rfl) (fun _ _ _ h => h) (yieldsSoIn_of (by kernel_rfl) ?_ (fun _ => rfl)) q0 ?_; rotate_left; focus (intro wq hw; clear hw; go_simp; try (with_reducible rfl))
    refine wpHeldIn_take (i := 4) (v := ?_) (plain_of (by kernel_rfl)) rfl (by kernel_rfl) (fun _ _ _ h => h) (yieldsSoIn_of (by kernel_rfl) ?_ (fun _ => rfl)) q0 ?_; rotate_left; focus (intro wq hw; have kq := KD.out wq hw; clear hw; go_simp; try (with_reducible rfl))
    refine wpHeldIn_two (i := 1) (j := 5) (by kernel_rfl) (by kernel_rfl) (by kernel_rfl) rfl rfl (by kernel_rfl) (by kernel_rfl) (fun K2 hK2 => ?_) (fun K2 hK2 => ?_)
    · go_simp
      refine hK2 _ _ (by (repeat' (first | (with_reducible exact Below.refl _ _) | (with_reducible assumption) | (with_reducible refine Below.alloc ?_ ?_ _) | (with_reducible refine Below.drew ?_) | (with_reducible refine Below.setCell ?_ ?_ _) | go_size | (exact (by simp)) | omega))) ?_
      refine wpHeldIn_one (i := 5) (by kernel_rfl) (by kernel_rfl) rfl (by kernel_rfl) (fun K3 hK3 => ?_)
      go_simp
      refine hK3 _ _ (by (repeat' (first | (with_reducible exact Below.refl _ _) | (with_reducible assumption) | (with_reducible refine Below.alloc ?_ ?_ _) | (with_reducible refine Below.drew ?_) | (with_reducible refine Below.setCell ?_ ?_ _) | go_size | (exact (by simp)) | omega))) ?_
      refine wpHeldIn_one (i := 6) (by kernel_rfl) (by kernel_rfl) rfl (by kernel_rfl) (fun K4 hK4 => ?_)
      have bx0 : BoxS (((w8.alloc (.cells #[] 54)).alloc (.cells #[.int .i64 1, .int .i64 1, .int .i64 0, .int .i64 10, .int .i64 62] 54)).drew) w8.heap.size 54 #[] := ((BoxS.new w8 54 #[]).alloc (.cells #[.int .i64 1, .int .i64 1, .int .i64 0, .int .i64 10, .int .i64 62] 54)).drew
      have bx1 : BoxS (((w8.alloc (.cells #[] 54)).alloc (.cells #[.int .i64 1, .int .i64 1, .int .i64 0, .int .i64 10, .int .i64 62] 54)).drew) (w8.heap.size + 1) 54 #[.int .i64 1, .int .i64 1, .int .i64 0, .int .i64 10, .int .i64 62] := by have := (BoxS.new (w8.alloc (.cells #[] 54)) 54 #[.int .i64 1, .int .i64 1, .int .i64 0, .int .i64 10, .int .i64 62]).drew; rw [World.size_alloc] at this; exact this
      refine wpIn_pushw (B := w8.heap.size) (.tmp 41) (.tmp 45) rfl (1, 1, 0, 10, 62) w8.heap.size (w8.heap.size + 1) rfl rfl bx0 bx1 (by omega) ?_
      rintro A8 c8 w5 hks hb5
      have q5 : Below w8.heap.size w8 w5 := Below.trans (show Below w8.heap.size w8 (((w8.alloc (.cells #[] 54)).alloc (.cells #[.int .i64 1, .int .i64 1, .int .i64 0, .int .i64 10, .int .i64 62] 54)).drew) from by (repeat' (first | (with_reducible exact Below.refl _ _) | (with_reducible assumption) | (with_reducible refine Below.alloc ?_ ?_ _) | (with_reducible refine Below.drew ?_) | (with_reducible refine Below.setCell ?_ ?_ _) | go_size | (exact (by simp)) | omega))) hb5
      refine hK4 _ _ q5 ?_
      refine wpHeldIn_one (i := 7) (by kernel_rfl) (by kernel_rfl) rfl (by kernel_rfl) (fun K5 hK5 => ?_)
      go_simp
      refine ⟨trivial, (callsIn_wide.2 (HN.out _ _ _ hks)).mono ?_⟩
      rintro e w6 ⟨rfl, hb6⟩
      have q6 := q5.trans (hb6.mono q5.size)
      refine hK5 _ _ q6 ?_
      refine wpHeldIn_take (i := 8) (v := ?_) (plain_of (by kernel_rfl)) rfl (by kernel_rfl) (fun _ _ _ h => h) (yieldsSoIn_of (by kernel_rfl) ?_ (fun _ => rfl)) q6 ?_; rotate_left; focus (intro wq hw; clear hw; go_simp; try (with_reducible rfl))
      refine wpHeldIn_take (i := 9) (v := ?_) (plain_of (by kernel_rfl)) rfl (by kernel_rfl) (fun _ _ _ h => h) (yieldsSoIn_of (by kernel_rfl) ?_ (fun _ => rfl)) q6 ?_; rotate_left; focus (intro wq hw; clear hw; go_simp; try (with_reducible rfl))
      refine wpHeldIn_take (i := 10) (v := ?_) (plain_of (by kernel_rfl)) rfl (by kernel_rfl) (fun _ _ _ h => h) (yieldsSoIn_of (by kernel_rfl) ?_ (fun _ => rfl)) q6 ?_; rotate_left; focus (intro wq hw; clear hw; go_simp; try (with_reducible rfl))
      refine wpHeldIn_take (i := 11) (v := ?_) (plain_of (by kernel_rfl)) rfl (by kernel_rfl) (fun _ _ _ h => h) (yieldsSoIn_of (by kernel_rfl) ?_ (fun _ => rfl)) q6 ?_; rotate_left; focus (intro wq hw; clear hw; go_simp; try (with_reducible rfl))
      refine wpHeldIn_take (i := 12) (v := ?_) (plain_of (by kernel_rfl)) rfl (by kernel_rfl) (fun _ _ _ h => h) (yieldsSoIn_of (by kernel_rfl) ?_ (fun _ => rfl)) q6 ?_; rotate_left; focus (intro wq hw; clear hw; go_simp; try (with_reducible rfl))
      refine wpHeldIn_take (i := 13) (v := ?_) (plain_of (by kernel_rfl)) rfl (by kernel_rfl) (fun _ _ _ h => h) (yieldsSoIn_of (by kernel_rfl) ?_ (fun _ => rfl)) q6 ?_; rotate_left; focus (intro wq hw; clear hw; go_simp; try (with_reducible rfl))
      refine wpHeldIn_take (i := 14) (v := ?_) (plain_of (by kernel_rfl)) rfl (by kernel_rfl) (fun _ _ _ h => h) (yieldsSoIn_of (by kernel_rfl) ?_ (fun _ => rfl)) q6 ?_; rotate_left; focus (intro wq hw; clear hw; go_simp; try (with_reducible rfl))
      refine wpHeldIn_done (by kernel_rfl) ?_ _
      go_simp
      have r6 := q6
      clear q0 q5 q6 hb5 hb6 bx0 bx1 hks hmo KC KD
      have hB9 := hB8.trans (r6.mono hB8.size)
      have hi7b : Hid (Ints w6 w6.heap.size v7 [53]) := (hi7'.out.keep r6).more r6.size
      have hi8b : Hid (Ints w6 w6.heap.size v8 [52, 53, 54, 55, 56]) := (hi8.out.keep r6).more r6.size
      clear hi7' hi8 r6 KE8 KE2 bW8 bW2
      go_wp2_with fail
      have q1 : Below w6.heap.size w6 (w6.alloc (.cells #[.int .i64 53] 3)) := (Below.refl _ _).alloc (Nat.le_refl _) _
      refine (SameInts_any _ _ [53] [53] _ ((hi7b.out.keep q1).more q1.size) (ints_new w6 [53]) (by decide) (by decide)).mono ?_
      rintro e w10 ⟨rfl, hb10⟩
      have q2 := q1.trans (hb10.mono q1.size)
      have hB10 := hB9.trans (q2.mono hB9.size)
      have hi8c : Hid (Ints w10 w10.heap.size v8 [52, 53, 54, 55, 56]) := (hi8b.out.keep q2).more q2.size
      clear hi7b hi8b q1 q2 hb10
      go_wp2_with fail
      have q1 : Below w10.heap.size w10 (w10.alloc (.cells #[.int .i64 52, .int .i64 53, .int .i64 54, .int .i64 55, .int .i64 56] 3)) := (Below.refl _ _).alloc (Nat.le_refl _) _
      refine (SameInts_any _ _ [52, 53, 54, 55, 56] [52, 53, 54, 55, 56] _ ((hi8c.out.keep q1).more q1.size) (ints_new w10 [52, 53, 54, 55, 56]) (by decide) (by decide)).mono ?_
      rintro e w11 ⟨rfl, hb11⟩
      have q2 := q1.trans (hb11.mono q1.size)
      have hB11 := hB10.trans (q2.mono hB10.size)
      clear hi8c q1 q2 hb11
      go_wp2_with fail
      go_returns
      exact ⟨rfl, hB11⟩
    · go_simp
      refine hK2 _ _ (by (repeat' (first | (with_reducible exact Below.refl _ _) | (with_reducible assumption) | (with_reducible refine Below.alloc ?_ ?_ _) | (with_reducible refine Below.drew ?_) | (with_reducible refine Below.setCell ?_ ?_ _) | go_size | (exact (by simp)) | omega))) ?_
      refine wpHeldIn_one (i := 1) (by kernel_rfl) (by kernel_rfl) rfl (by kernel_rfl) (fun K3 hK3 => ?_)
      go_simp
      refine hK3 _ _ (by (repeat' (first | (with_reducible exact Below.refl _ _) | (with_reducible assumption) | (with_reducible refine Below.alloc ?_ ?_ _) | (with_reducible refine Below.drew ?_) | (with_reducible refine Below.setCell ?_ ?_ _) | go_size | (exact (by simp)) | omega))) ?_
      refine wpHeldIn_one (i := 6) (by kernel_rfl) (by kernel_rfl) rfl (by kernel_rfl) (fun K4 hK4 => ?_)
      have bx0 : BoxS (((w8.alloc (.cells #[.int .i64 1, .int .i64 1, .int .i64 0, .int .i64 10, .int .i64 62] 54)).alloc (.cells #[] 54)).drew) (w8.heap.size + 1) 54 #[] := by have := (BoxS.new (w8.alloc (.cells #[.int .i64 1, .int .i64 1, .int .i64 0, .int .i64 10, .int .i64 62] 54)) 54 #[]).drew; rw [World.size_alloc] at this; exact this
      have bx1 : BoxS (((w8.alloc (.cells #[.int .i64 1, .int .i64 1, .int .i64 0, .int .i64 10, .int .i64 62] 54)).alloc (.cells #[] 54)).drew) w8.heap.size 54 #[.int .i64 1, .int .i64 1, .int .i64 0, .int .i64 10, .int .i64 62] := ((BoxS.new w8 54 #[.int .i64 1, .int .i64 1, .int .i64 0, .int .i64 10, .int .i64 62]).alloc (.cells #[] 54)).drew
      refine wpIn_pushw (B := w8.heap.size) (.tmp 41) (.tmp 45) rfl (1, 1, 0, 10, 62) (w8.heap.size + 1) w8.heap.size rfl rfl bx0 bx1 (by omega) ?_
      rintro A8 c8 w5 hks hb5
      have q5 : Below w8.heap.size w8 w5 := Below.trans (show Below w8.heap.size w8 (((w8.alloc (.cells #[.int .i64 1, .int .i64 1, .int .i64 0, .int .i64 10, .int .i64 62] 54)).alloc (.cells #[] 54)).drew) from by (repeat' (first | (with_reducible exact Below.refl _ _) | (with_reducible assumption) | (with_reducible refine Below.alloc ?_ ?_ _) | (with_reducible refine Below.drew ?_) | (with_reducible refine Below.setCell ?_ ?_ _) | go_size | (exact (by simp)) | omega))) hb5
      refine hK4 _ _ q5 ?_
      refine wpHeldIn_one (i := 7) (by kernel_rfl) (by kernel_rfl) rfl (by kernel_rfl) (fun K5 hK5 => ?_)
      go_simp
      refine ⟨trivial, (callsIn_wide.2 (HN.out _ _ _ hks)).mono ?_⟩
      rintro e w6 ⟨rfl, hb6⟩
      have q6 := q5.trans (hb6.mono q5.size)
      refine hK5 _ _ q6 ?_
      refine wpHeldIn_take (i := 8) (v := ?_) (plain_of (by kernel_rfl)) rfl (by kernel_rfl) (fun _ _ _ h => h) (yieldsSoIn_of (by kernel_rfl) ?_ (fun _ => rfl)) q6 ?_; rotate_left; focus (intro wq hw; clear hw; go_simp; try (with_reducible rfl))
      refine wpHeldIn_take (i := 9) (v := ?_) (plain_of (by kernel_rfl)) rfl (by kernel_rfl) (fun _ _ _ h => h) (yieldsSoIn_of (by kernel_rfl) ?_ (fun _ => rfl)) q6 ?_; rotate_left; focus (intro wq hw; clear hw; go_simp; try (with_reducible rfl))
      refine wpHeldIn_take (i := 10) (v := ?_) (plain_of (by kernel_rfl)) rfl (by kernel_rfl) (fun _ _ _ h => h) (yieldsSoIn_of (by kernel_rfl) ?_ (fun _ => rfl)) q6 ?_; rotate_left; focus (intro wq hw; clear hw; go_simp; try (with_reducible rfl))
      refine wpHeldIn_take (i := 11) (v := ?_) (plain_of (by kernel_rfl)) rfl (by kernel_rfl) (fun _ _ _ h => h) (yieldsSoIn_of (by kernel_rfl) ?_ (fun _ => rfl)) q6 ?_; rotate_left; focus (intro wq hw; clear hw; go_simp; try (with_reducible rfl))
      refine wpHeldIn_take (i := 12) (v := ?_) (plain_of (by kernel_rfl)) rfl (by kernel_rfl) (fun _ _ _ h => h) (yieldsSoIn_of (by kernel_rfl) ?_ (fun _ => rfl)) q6 ?_; rotate_left; focus (intro wq hw; clear hw; go_simp; try (with_reducible rfl))
      refine wpHeldIn_take (i := 13) (v := ?_) (plain_of (by kernel_rfl)) rfl (by kernel_rfl) (fun _ _ _ h => h) (yieldsSoIn_of (by kernel_rfl) ?_ (fun _ => rfl)) q6 ?_; rotate_left; focus (intro wq hw; clear hw; go_simp; try (with_reducible rfl))
      refine wpHeldIn_take (i := 14) (v := ?_) (plain_of (by kernel_rfl)) rfl (by kernel_rfl) (fun _ _ _ h => h) (yieldsSoIn_of (by kernel_rfl) ?_ (fun _ => rfl)) q6 ?_; rotate_left; focus (intro wq hw; clear hw; go_simp; try (with_reducible rfl))
      refine wpHeldIn_done (by kernel_rfl) ?_ _
      go_simp
      have r6 := q6
      clear q0 q5 q6 hb5 hb6 bx0 bx1 hks hmo KC KD
      have hB9 := hB8.trans (r6.mono hB8.size)
      have hi7b : Hid (Ints w6 w6.heap.size v7 [53]) := (hi7'.out.keep r6).more r6.size
      have hi8b : Hid (Ints w6 w6.heap.size v8 [52, 53, 54, 55, 56]) := (hi8.out.keep r6).more r6.size
      clear hi7' hi8 r6 KE8 KE2 bW8 bW2
      go_wp2_with fail
      have q1 : Below w6.heap.size w6 (w6.alloc (.cells #[.int .i64 53] 3)) := (Below.refl _ _).alloc (Nat.le_refl _) _
      refine (SameInts_any _ _ [53] [53] _ ((hi7b.out.keep q1).more q1.size) (ints_new w6 [53]) (by decide) (by decide)).mono ?_
      rintro e w10 ⟨rfl, hb10⟩
      have q2 := q1.trans (hb10.mono q1.size)
      have hB10 := hB9.trans (q2.mono hB9.size)
      have hi8c : Hid (Ints w10 w10.heap.size v8 [52, 53, 54, 55, 56]) := (hi8b.out.keep q2).more q2.size
      clear hi7b hi8b q1 q2 hb10
      go_wp2_with fail
      have q1 : Below w10.heap.size w10 (w10.alloc (.cells #[.int .i64 52, .int .i64 53, .int .i64 54, .int .i64 55, .int .i64 56] 3)) := (Below.refl _ _).alloc (Nat.le_refl _) _
      refine (SameInts_any _ _ [52, 53, 54, 55, 56] [52, 53, 54, 55, 56] _ ((hi8c.out.keep q1).more q1.size) (ints_new w10 [52, 53, 54, 55, 56]) (by decide) (by decide)).mono ?_
      rintro e w11 ⟨rfl, hb11⟩
      have q2 := q1.trans (hb11.mono q1.size)
      have hB11 := hB10.trans (q2.mono hB10.size)
      clear hi8c q1 q2 hb11
      go_wp2_with fail
      go_returns
      exact ⟨rfl, hB11⟩
end Go.Proofs.Ytecmlakcpgkfbaa
