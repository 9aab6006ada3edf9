/- Wheels: the least number of walks that are not right. -/

import Derived.Test.YtecmlakcpgkfbaaWhM
namespace Go.Proofs.Ytecmlakcpgkfbaa
open Go.RowKit Go.Shelf
attribute [local go_sem] Oper.semAt_some
namespace Wh
def lowS (a b : Int) : Int := if b < a then b else a
def fewF (d : Desk) (L : List TrS) : Int := L.foldl (fun l x => lowS l (wrongN d x.1 : Nat)) (d.ws.length : Nat)
theorem few_snoc (d : Desk) (L : List TrS) (x : TrS) : fewF d (L ++ [x]) = lowS (fewF d L) (wrongN d x.1 : Nat) := by unfold fewF; rw [List.foldl_append]; rfl
def fewV (d : Desk) : Int := if okB d then fewF d (casesL d) else 0
theorem low_min (a b : Int) : min a b = lowS a b := by unfold lowS; split <;> omega
theorem few_le_from (d : Desk) (m : Int) : ∀ (L : List TrS) (a : Int), L.foldl (fun l x => lowS l (wrongN d x.1 : Nat)) a ≤ m ↔ a ≤ m ∨ ∃ x ∈ L, (wrongN d x.1 : Int) ≤ m
  | [], a => by simp
  | x :: l, a => by
    rw [List.foldl_cons, few_le_from d m l]
    have e : lowS a (wrongN d x.1 : Nat) ≤ m ↔ a ≤ m ∨ (wrongN d x.1 : Int) ≤ m := by unfold lowS; split <;> omega
    rw [e]
    constructor
    · rintro ((h | h) | ⟨y, hy, h⟩)
      · exact .inl h
      · exact .inr ⟨x, List.mem_cons_self, h⟩
      · exact .inr ⟨y, List.mem_cons_of_mem _ hy, h⟩
    · rintro (h | ⟨y, hy, h⟩)
      · exact .inl (.inl h)
      · rcases List.mem_cons.1 hy with rfl | hy
        · exact .inl (.inr h)
        · exact .inr ⟨y, hy, h⟩
theorem few_bd (d : Desk) (L : List TrS) : 0 ≤ fewF d L ∧ fewF d L ≤ d.ws.length := by
  have key : ∀ (L : List TrS) (a : Int), 0 ≤ a → 0 ≤ L.foldl (fun l x => lowS l (wrongN d x.1 : Nat)) a ∧ L.foldl (fun l x => lowS l (wrongN d x.1 : Nat)) a ≤ a := by
    intro L
    induction L with
    | nil => intro a ha; simp; exact ha
    | cons x l ih =>
      intro a ha
      have h1 : 0 ≤ lowS a (wrongN d x.1 : Nat) ∧ lowS a (wrongN d x.1 : Nat) ≤ a := by unfold lowS; split <;> omega
      have h2 := ih _ h1.1
      rw [List.foldl_cons]
      exact ⟨h2.1, by omega⟩
  exact key L _ (by omega)
end Wh

set_option maxRecDepth 100000 in
set_option maxHeartbeats 4000000 in
theorem Fewest_no (s : Wh.Desk) (A : Option Addr) (c : Nat) (w : World) (hl : s.ws.length ≤ 1000000000) (hg : Wks w w.heap.size A s.ws) (hok : Wh.okB s = false) :
    Calls Try.prog 16 #[.agg (whV s), .slice A s.ws.length c] w (TwoPost 0 (Wh.chkE s) w) := by
  have HC : Hid (∀ W, Below w.heap.size w W → Calls Try.prog 14 #[.agg (whV s), .slice A s.ws.length c] W (ErrPost (Wh.chkE s) W)) := fun W hW => wCheck_any s A c W hl ((hg.keep hW).wider hW.size)
  have hne : (Wh.chkE s == 0) = false := by simpa using Wh.chkE_no hok
  clear hg hl hok
  generalize Wh.chkE s = E at *
  obtain ⟨full, read, slip, skew, circ, glo, ghi, wrn, ws⟩ := s
  unfold whV at *
  dsimp only at *
  go_enter Try.func16, Try.ntmps16
  go_wp2_with fail
  have hB1 : Below w.heap.size w (w.alloc (.cells #[.int .i64 full, .int .i64 read, .int .i64 slip, .int .i64 skew, .int .i64 circ, .int .i64 glo, .int .i64 ghi, .int .i64 wrn] 25)) := by (repeat' (first | (with_reducible exact Below.refl _ _) | (with_reducible assumption) | (with_reducible refine Below.alloc ?_ ?_ _) | (with_reducible refine Below.drew ?_) | (with_reducible refine Below.setCell ?_ ?_ _) | go_size | (exact (by simp)) | omega))
  generalize World.alloc w _ = w1 at *
  refine (HC.out _ hB1).mono ?_
  rintro e w2 ⟨rfl, hb2⟩
  have hB2 := hB1.trans (hb2.mono hB1.size)
  go_wp2_with fail
  go_returns
  exact ⟨rfl, hB2⟩

set_option maxRecDepth 100000 in
set_option maxHeartbeats 8000000 in
theorem Fewest_yes (s : Wh.Desk) (A : Option Addr) (c : Nat) (w : World) (hok : Wh.okB s = true) (hg : Wks w w.heap.size A s.ws) :
    Calls Try.prog 16 #[.agg (whV s), .slice A s.ws.length c] w (TwoPost (Wh.fewF s (Wh.casesL s)) 0 w) := by
  have hs := Wh.ok_of hok
  have hlen := Wh.ok_len hok
  have HC : Hid (∀ W, Below w.heap.size w W → Calls Try.prog 14 #[.agg (whV s), .slice A s.ws.length c] W (ErrPost 0 W)) := fun W hW => by
    have := wCheck_any s A c W (by omega) ((hg.keep hW).wider hW.size)
    rw [Wh.chkE_yes hok] at this
    exact this
  have HSEQ : Hid (∀ w', Below w.heap.size w w' → SeqFar Try.prog 52 #[.agg (dkV s A c)] #[] encTr w.heap.size (fun ys => ys = Wh.casesL s) (fun pre => pre <+: Wh.casesL s) 500000 w') := fun w' _ => cases_far s hs A c w.heap.size w'
  have HWR : Hid (∀ (x : Wh.TrS) W, Below w.heap.size w W → Calls Try.prog 53 #[.agg (dkV s A c), .agg #[.int .i64 x.1.1, .int .i64 x.1.2]] W fun e w' => e = .returned (.int .i64 (Wh.wrongN s x.1 : Nat)) ∧ Below W.heap.size W w') := fun x W hW => wrong_any s hs A c x.1 W (by omega) x.2 (Wh.ok_sm hok) ((hg.keep hW).wider hW.size)
  have HSN : Hid (∀ (pre : List Wh.TrS) (x : Wh.TrS), Wh.fewF s (pre ++ [x]) = Wh.lowS (Wh.fewF s pre) (Wh.wrongN s x.1 : Nat)) := Wh.few_snoc s
  have HF0 : Hid (Wh.fewF s [] = (s.ws.length : Nat)) := rfl
  clear hg hok hs hlen
  generalize Wh.fewF s = FW at *
  generalize Wh.wrongN s = WN at *
  generalize Wh.casesL s = TL at *
  obtain ⟨full, read, slip, skew, circ, glo, ghi, wrn, ws⟩ := s
  unfold dkV at HSEQ HWR
  unfold whV at HC ⊢
  dsimp only at *
  refine (callsIn_wide (n := 8)).1 ?_
  refine callsIn_of_wp_marks Try.func16 rfl trivial ?_ rfl
  simp only [Try.ntmps16, List.size_toArray, List.length_cons, List.length_nil, Nat.reduceAdd, Nat.reduceSub, Array.replicate_succ, Array.replicate_zero, List.push_toArray, List.append_toArray, List.nil_append, List.cons_append]
  gi_wp2
  have bS1 := BoxS.new w 25 #[.int .i64 full, .int .i64 read, .int .i64 slip, .int .i64 skew, .int .i64 circ, .int .i64 glo, .int .i64 ghi, .int .i64 wrn]
  have hB1 : Below w.heap.size w (w.alloc (.cells #[.int .i64 full, .int .i64 read, .int .i64 slip, .int .i64 skew, .int .i64 circ, .int .i64 glo, .int .i64 ghi, .int .i64 wrn] 25)) := by (repeat' (first | (with_reducible exact Below.refl _ _) | (with_reducible assumption) | (with_reducible refine Below.alloc ?_ ?_ _) | (with_reducible refine Below.drew ?_) | (with_reducible refine Below.setCell ?_ ?_ _) | go_size | (exact (by simp)) | omega))
  generalize World.alloc w _ = w1 at *
  refine ⟨trivial, (callsIn_wide.2 (HC.out _ hB1)).mono ?_⟩
  rintro e w2 ⟨rfl, hb2⟩
  have bS2 := bS1.below hb2
  have hB2 := hB1.trans (hb2.mono hB1.size)
  clear bS1 hb2 hB1 HC
  obtain ⟨⟨⟨s0, s1, s2⟩, s3, s4, s5⟩, s6, s7⟩ := boxS8 bS2
  have ls := bS2.lt
  gi_wp2
  have bW3 := (BoxS.new w2 77 #[.int .i64 full, .int .i64 read, .int .i64 slip, .int .i64 skew, .int .i64 circ, .int .i64 glo, .int .i64 ghi, .int .i64 wrn, .slice A ws.length c]).alloc (.cells #[.int .i64 (ws.length : Nat)] 3)
  have bN3 := BoxS.new (w2.alloc (.cells #[.int .i64 full, .int .i64 read, .int .i64 slip, .int .i64 skew, .int .i64 circ, .int .i64 glo, .int .i64 ghi, .int .i64 wrn, .slice A ws.length c] 77)) 3 #[.int .i64 (ws.length : Nat)]
  rw [World.size_alloc] at bN3
  have hB3 : Below w.heap.size w ((w2.alloc (.cells #[.int .i64 full, .int .i64 read, .int .i64 slip, .int .i64 skew, .int .i64 circ, .int .i64 glo, .int .i64 ghi, .int .i64 wrn, .slice A ws.length c] 77)).alloc (.cells #[.int .i64 (ws.length : Nat)] 3)) := (hB2.alloc hB2.size _).alloc (by have := hB2.size; simp; omega) _
  have hz3 : ((w2.alloc (.cells #[.int .i64 full, .int .i64 read, .int .i64 slip, .int .i64 skew, .int .i64 circ, .int .i64 glo, .int .i64 ghi, .int .i64 wrn, .slice A ws.length c] 77)).alloc (.cells #[.int .i64 (ws.length : Nat)] 3)).heap.size = w2.heap.size + 2 := by simp
  have hws := hB2.size
  clear hB2 bS2 s0 s1 s2 s3 s4 s5 s6 s7
  generalize World.alloc (World.alloc w2 _) _ = w3 at *
  refine wpIn_far (n₀ := w.heap.size) (gf := 52) (pb := #[.agg #[.int .i64 full, .int .i64 read, .int .i64 slip, .int .i64 skew, .int .i64 circ, .int .i64 glo, .int .i64 ghi, .int .i64 wrn, .slice A ws.length c]]) (lb := #[]) rfl (enters_of Try.func52 (by kernel_rfl) rfl)
    (HSEQ.out w3 hB3) (Below.refl _ _) (by omega) (fun _ => rfl)
    (fun (pre : List Wh.TrS) V => (BoxS V w2.heap.size 77 #[.int .i64 full, .int .i64 read, .int .i64 slip, .int .i64 skew, .int .i64 circ, .int .i64 glo, .int .i64 ghi, .int .i64 wrn, .slice A ws.length c] ∧ BoxS V (w2.heap.size + 1) 3 #[.int .i64 (FW pre)]) ∧ Below w.heap.size w V)
    (fun _ _ _ => False)
    (OwnFrom.and (OwnFrom.and (Own.from (boxS_own _ _ (fun _ => _)) _) (Own.from (boxS_own _ _ (fun pre : List Wh.TrS => #[.int .i64 (FW pre)])) _)) (ownFrom_below (Nat.le_refl _) (by omega)))
    (fun _ _ _ _ _ hs _ _ => hs)
    ⟨⟨bW3, by rw [HF0.out]; exact bN3⟩, hB3⟩
    (fun x a' V => ∃ Bx, w2.heap.size + 1 < Bx ∧ BoxS V Bx 80 #[.int .i64 x.1.1, .int .i64 x.1.2] ∧ a' = { tmps := #[.agg #[.int .i64 full, .int .i64 read, .int .i64 slip, .int .i64 skew, .int .i64 circ, .int .i64 glo, .int .i64 ghi, .int .i64 wrn], .slice A ws.length c, .pointer (some ⟨w.heap.size, 0, none⟩), undef, .int .i64 0, .int .i64 0, .int .i64 0, .pointer (some ⟨w2.heap.size, 0, none⟩), .pointer (some ⟨w2.heap.size + 1, 0, none⟩), .pointer (some ⟨Bx, 0, none⟩), .agg #[.int .i64 full, .int .i64 read, .int .i64 slip, .int .i64 skew, .int .i64 circ, .int .i64 glo, .int .i64 ghi, .int .i64 wrn], .slice A ws.length c, .int .i64 0, .int .i64 0, .bool false, undef, .agg #[.int .i64 full, .int .i64 read, .int .i64 slip, .int .i64 skew, .int .i64 circ, .int .i64 glo, .int .i64 ghi, .int .i64 wrn], .slice A ws.length c, .agg #[.int .i64 full, .int .i64 read, .int .i64 slip, .int .i64 skew, .int .i64 circ, .int .i64 glo, .int .i64 ghi, .int .i64 wrn, .slice A ws.length c], .slice A ws.length c, .int .i64 (ws.length : Nat), .agg #[.int .i64 full, .int .i64 read, .int .i64 slip, .int .i64 skew, .int .i64 circ, .int .i64 glo, .int .i64 ghi, .int .i64 wrn, .slice A ws.length c], .func (.func 52) #[.agg #[.int .i64 full, .int .i64 read, .int .i64 slip, .int .i64 skew, .int .i64 circ, .int .i64 glo, .int .i64 ghi, .int .i64 wrn, .slice A ws.length c]] #[], .agg #[.int .i64 x.1.1, .int .i64 x.1.2], undef, undef, undef, undef, undef, undef], defers := [] })
    (fun x a' _ X Y row hs hg hr => by obtain ⟨Bx, e1, e2, e3⟩ := hs; exact ⟨Bx, e1, boxS_own Bx 80 (fun (_ : Unit) => #[.int .i64 x.1.1, .int .i64 x.1.2]) () X Y row e2 hg (fun r e => (hr r e).2), e3⟩)
    ?assign ?body ?done ?stop
  case assign =>
    rintro l2 pre x V K ⟨⟨bW, bN⟩, hB⟩ hK
    unfold encTr
    gi_wp2
    exact hK _ _ (Apart.alloc _ _) ⟨⟨bW.alloc _, bN.alloc _⟩, hB.alloc hB.size _⟩ ⟨V.heap.size, bN.lt, BoxS.new V _ _, rfl⟩
  case body =>
    rintro l2 pre x a' V ⟨⟨bW, bN⟩, hB⟩ ⟨Bx, hBx, bX, rfl⟩ hlt
    have HW1 := Lib.hid (fun W (hW : Below V.heap.size V W) => HWR.out x W (hB.trans (hW.mono hB.size)))
    have HA1 := Lib.hid (HSN.out pre x)
    have KC : Hid (∀ V', Below V.heap.size V V' → (V'.cell? ⟨w2.heap.size + 1, 0, none⟩ = some (.int .i64 (FW pre))) ∧ (V'.cell? ⟨Bx, 0, none⟩ = some (.int .i64 x.1.1) ∧ V'.cell? ⟨Bx, 1, none⟩ = some (.int .i64 x.1.2)) ∧ (((V'.cell? ⟨w2.heap.size, 0, none⟩ = some (.int .i64 full) ∧ V'.cell? ⟨w2.heap.size, 1, none⟩ = some (.int .i64 read) ∧ V'.cell? ⟨w2.heap.size, 2, none⟩ = some (.int .i64 slip)) ∧ V'.cell? ⟨w2.heap.size, 3, none⟩ = some (.int .i64 skew) ∧ V'.cell? ⟨w2.heap.size, 4, none⟩ = some (.int .i64 circ) ∧ V'.cell? ⟨w2.heap.size, 5, none⟩ = some (.int .i64 glo)) ∧ V'.cell? ⟨w2.heap.size, 6, none⟩ = some (.int .i64 ghi) ∧ V'.cell? ⟨w2.heap.size, 7, none⟩ = some (.int .i64 wrn) ∧ V'.cell? ⟨w2.heap.size, 8, none⟩ = some (.slice A ws.length c))) :=
      fun V' h => ⟨(bN.below h).cell 0 rfl, ⟨(bX.below h).cell 0 rfl, (bX.below h).cell 1 rfl⟩, boxS9 (bW.below h)⟩
    generalize FW pre = lo at *
    generalize WN x.1 = wn at *
    have hmo : Try.prog.follows .mixedOrders = true := by kernel_rfl
    have q0 : Below V.heap.size V V.drew := (Below.refl _ _).drew
    gi_wp2
    refine wpIn_region_held (fun V' => Below V.heap.size V V') 5 hmo ?_
    refine wpHeldIn_take (i := 0) (v := ?_) (plain_of (by kernel_rfl)) rfl (by kernel_rfl) (fun _ _ _ h => h) (yieldsSoIn_of (by kernel_rfl) ?_ (fun _ => rfl)) q0 ?_; rotate_left; focus (intro wq hw; have kq := KC.out wq hw; clear hw; go_simp; try (with_reducible rfl))
    refine wpHeldIn_take (i := 1) (v := ?_) (plain_of (by kernel_rfl)) rfl (by kernel_rfl) (fun _ _ _ h => h) (yieldsSoIn_of (by kernel_rfl) ?_ (fun _ => rfl)) q0 ?_; rotate_left; focus (intro wq hw; have kq := KC.out wq hw; clear hw; go_simp; try (with_reducible rfl))
    refine wpHeldIn_take (i := 2) (v := ?_) (plain_of (by kernel_rfl)) rfl (by kernel_rfl) (fun _ _ _ h => h) (yieldsSoIn_of (by kernel_rfl) ?_ (fun _ => rfl)) q0 ?_; rotate_left; focus (intro wq hw; have kq := KC.out wq hw; clear hw; go_simp; try (with_reducible rfl))
    refine wpHeldIn_one (i := 3) (by kernel_rfl) (by kernel_rfl) rfl (by kernel_rfl) (fun K1 hK1 => ?_)
    go_simp
    refine ⟨trivial, (CallsIn.inRound l2 (callsIn_wide.2 (HW1.out _ q0))).mono ?_⟩
    rintro e V2 ⟨rfl, hb2⟩
    have q1 := q0.trans (hb2.mono q0.size)
    refine hK1 _ _ q1 ?_
    have bW2 := bW.below q1
    have bN2 := bN.below q1
    have hB2 := hB.trans (q1.mono hB.size)
    have hA2 : Apart w.heap.size w3.heap.size V V2 := Apart.of_below q1
    refine wpHeldIn_take (i := 4) (v := ?_) (plain_of (by kernel_rfl)) rfl (by kernel_rfl) (fun _ _ _ h => h) (yieldsSoIn_of (by kernel_rfl) ?_ (fun _ => rfl)) q1 ?_; rotate_left; focus (intro wq hw; clear hw; go_simp; try (with_reducible rfl))
    have c0 := bN2.cell 0 rfl
    have f0 := bN2.frozen 0
    refine wpHeldIn_last (by kernel_rfl) rfl (by kernel_rfl) (fun K2 hK2 => ?_)
    go_simp
    have hm : ∀ q : Int, min lo q = Wh.lowS lo q := fun q => Wh.low_min lo q
    try simp only [hm]
    refine hK2 _ _ ?_
    refine wpHeldIn_done (by kernel_rfl) ?_ _
    try simp only [hm]
    have bW3' : BoxS (V2.setCell ⟨w2.heap.size + 1, 0, none⟩ (.int .i64 (Wh.lowS lo (wn : Nat)))) w2.heap.size 77 #[.int .i64 full, .int .i64 read, .int .i64 slip, .int .i64 skew, .int .i64 circ, .int .i64 glo, .int .i64 ghi, .int .i64 wrn, .slice A ws.length c] := bW2.away (by omega) _ _
    have bN3' : BoxS (V2.setCell ⟨w2.heap.size + 1, 0, none⟩ (.int .i64 (Wh.lowS lo (wn : Nat)))) (w2.heap.size + 1) 3 #[.int .i64 (Wh.lowS lo (wn : Nat))] := bN2.put1 _
    have hA3 := hA2.trans (Apart.setCell V2 ⟨w2.heap.size + 1, 0, none⟩ (by simp; omega) (by simp; omega) (.int .i64 (Wh.lowS lo (wn : Nat))))
    clear KC q0 q1 c0 f0 hm hb2
    gi_wp2
    first
      | exact ⟨hA3, ⟨bW3', by rw [HA1.out]; exact bN3'⟩, hB.trans (hA3.below hB.size)⟩
      | exact ⟨hA3.trans (Apart.drew _), ⟨bW3', by rw [HA1.out]; exact bN3'⟩, hB.trans ((hA3.trans (Apart.drew _)).below hB.size)⟩
  case done =>
    rintro D0 zs V hD0 rfl ⟨⟨bW, bN⟩, hB⟩ hK
    have c0 := bN.cell 0 rfl
    gi_wp2
    refine ⟨by simp, .inl ⟨_, _, rfl, run_takeDeferred hK, ?_⟩⟩
    exact ⟨.tuple #[.int .i64 (FW zs), .int .i64 0], by simp [results, Try.f16, go_sem], rfl, hB.trans (belowK_b (w := w) (Nat.le_refl _) V D0 _ _ (by omega) hK rfl rfl)⟩
  case stop =>
    rintro D0 cc pre V hD hpre h hK
    exact h.elim
theorem Fewest_any (s : Wh.Desk) (A : Option Addr) (c : Nat) (w : World) (hl : s.ws.length ≤ 1000000000) (hg : Wks w w.heap.size A s.ws) :
    Calls Try.prog 16 #[.agg (whV s), .slice A s.ws.length c] w (TwoPost (Wh.fewV s) (Wh.chkE s) w) := by
  unfold Wh.fewV
  cases hok : Wh.okB s with
  | false =>
    have := Fewest_no s A c w hl hg hok
    simpa using this
  | true =>
    rw [Wh.chkE_yes hok]
    exact Fewest_yes s A c w hok hg
end Go.Proofs.Ytecmlakcpgkfbaa
