/- Sheets: the least number of controls that are not right, by both sides. -/
import Derived.Test.YtgpmnkdagpcffaaStr
namespace Go.Proofs.Ytgpmnkdagpcffaa
open Go.RowKit Go.Shelf
attribute [local go_sem] Oper.semAt_some
namespace Sh
def fewF (cs : List Ct) (L : List FaS) : Int := L.foldl (fun l x => lowS l (wrongN x.1 cs : Nat)) (cs.length : Nat)
theorem few_snoc (cs : List Ct) (L : List FaS) (x : FaS) : fewF cs (L ++ [x]) = lowS (fewF cs L) (wrongN x.1 cs : Nat) := by unfold fewF; rw [List.foldl_append]; rfl
def fewV (s : Sheet) : Int := if okB s then fewF s.cs (casesL s) else 0
theorem low_min (a b : Int) : min a b = lowS a b := by unfold lowS; split <;> omega
theorem few_bd (cs : List Ct) (L : List FaS) : 0 ≤ fewF cs L ∧ fewF cs L ≤ cs.length := by
  have key : ∀ (L : List FaS) (a : Int), 0 ≤ a → 0 ≤ L.foldl (fun l x => lowS l (wrongN x.1 cs : Nat)) a ∧ L.foldl (fun l x => lowS l (wrongN x.1 cs : Nat)) a ≤ a := by
    intro L
    induction L with
    | nil => intro a ha; simp; exact ha
    | cons x l ih =>
      intro a ha
      have h1 : 0 ≤ lowS a (wrongN x.1 cs : Nat) ∧ lowS a (wrongN x.1 cs : Nat) ≤ a := by unfold lowS; split <;> omega
      have h2 := ih _ h1.1
      rw [List.foldl_cons]
      exact ⟨h2.1, by omega⟩
  exact key L _ (by omega)
end Sh

set_option maxRecDepth 100000 in
set_option maxHeartbeats 4000000 in
theorem Fewest_no (s : Sheet) (A : Option Addr) (c : Nat) (w : World) (hl : s.cs.length ≤ 1000000000) (hg : Cts w w.heap.size A s.cs) (hok : Sh.okB s = false) :
    Calls Try.prog 16 #[.agg (shV s A c)] w (TwoPost 0 40 w) := by
  have HC : Hid (∀ W, Below w.heap.size w W → Calls Try.prog 41 #[.agg (shV s A c)] W (ErrPost (Sh.chkE s) W)) := fun W hW => shCheck_any s A c W hl ((hg.keep hW).wider hW.size)
  rw [Sh.chkE_no hok] at HC
  clear hg hl hok
  obtain ⟨al, ah, bl, bh, cs, wrn⟩ := s
  unfold shV at *
  dsimp only at *
  go_enter Try.func16, Try.ntmps16
  go_wp2_with fail
  have hB1 : Below w.heap.size w (w.alloc (.cells #[.int .i64 al, .int .i64 ah, .int .i64 bl, .int .i64 bh, .slice A cs.length c, .int .i64 wrn] 26)) := by (repeat' (first | (with_reducible exact Below.refl _ _) | (with_reducible assumption) | (with_reducible refine Below.alloc ?_ ?_ _) | (with_reducible refine Below.drew ?_) | (with_reducible refine Below.setCell ?_ ?_ _) | go_size | (exact (by simp)) | omega))
  generalize World.alloc w _ = w1 at *
  refine (HC.out _ hB1).mono ?_
  rintro e w2 ⟨rfl, hb2⟩
  have hB2 := hB1.trans (hb2.mono hB1.size)
  go_wp2_with fail
  go_returns
  exact ⟨rfl, hB2⟩

set_option maxRecDepth 100000 in
set_option maxHeartbeats 8000000 in
theorem Fewest_yes (s : Sheet) (A : Option Addr) (c : Nat) (w : World) (hok : Sh.okB s = true) (hg : Cts w w.heap.size A s.cs) :
    Calls Try.prog 16 #[.agg (shV s A c)] w (TwoPost (Sh.fewF s.cs (Sh.casesL s)) 0 w) := by
  have hs := Sh.ok_of hok
  have hn8 := hs.n
  have HC : Hid (∀ W, Below w.heap.size w W → Calls Try.prog 41 #[.agg (shV s A c)] W (ErrPost 0 W)) := fun W hW => by
    have := shCheck_any s A c W (by omega) ((hg.keep hW).wider hW.size)
    rw [Sh.chkE_yes hok] at this
    exact this
  have HSEQ : Hid (∀ w', Below w.heap.size w w' → SeqFar Try.prog 58 #[.agg (shV s A c)] #[] encFa w.heap.size (fun ys => ys = Sh.casesL s) (fun pre => pre <+: Sh.casesL s) 50000 w') := fun w' _ => cases_far s hs A c w.heap.size w'
  have HWR : Hid (∀ (x : Sh.FaS) W, Below w.heap.size w W → Calls Try.prog 59 #[.agg (shV s A c), .agg #[.int .i64 x.1.1, .int .i64 x.1.2]] W fun e w' => e = .returned (.int .i64 (Sh.wrongN x.1 s.cs : Nat)) ∧ Below W.heap.size W w') := fun x W hW => wrong_any s A c x.1 W (by omega) x.2 (fun k hk => Sh.ctB_sm (hs.c k hk)) ((hg.keep hW).wider hW.size)
  clear hg hok hs
  obtain ⟨al, ah, bl, bh, cs, wrn⟩ := s
  unfold shV at HC HSEQ HWR ⊢
  dsimp only at *
  generalize Sh.casesL ⟨al, ah, bl, bh, cs, wrn⟩ = TL at *
  refine (callsIn_wide (n := 8)).1 ?_
  refine callsIn_of_wp_marks Try.func16 rfl trivial ?_ rfl
  simp only [Try.ntmps16, List.size_toArray, List.length_cons, List.length_nil, Nat.reduceAdd, Nat.reduceSub, Array.replicate_succ, Array.replicate_zero, List.push_toArray, List.append_toArray, List.nil_append, List.cons_append]
  gi_wp2
  have bS1 := BoxS.new w 26 #[.int .i64 al, .int .i64 ah, .int .i64 bl, .int .i64 bh, .slice A cs.length c, .int .i64 wrn]
  have hB1 : Below w.heap.size w (w.alloc (.cells #[.int .i64 al, .int .i64 ah, .int .i64 bl, .int .i64 bh, .slice A cs.length c, .int .i64 wrn] 26)) := by (repeat' (first | (with_reducible exact Below.refl _ _) | (with_reducible assumption) | (with_reducible refine Below.alloc ?_ ?_ _) | (with_reducible refine Below.drew ?_) | (with_reducible refine Below.setCell ?_ ?_ _) | go_size | (exact (by simp)) | omega))
  generalize World.alloc w _ = w1 at *
  refine ⟨trivial, (callsIn_wide.2 (HC.out _ hB1)).mono ?_⟩
  rintro e w2 ⟨rfl, hb2⟩
  have bS2 := bS1.below hb2
  have hB2 := hB1.trans (hb2.mono hB1.size)
  clear bS1 hb2 hB1 HC
  obtain ⟨⟨s0, s1, s2⟩, s3, s4, s5⟩ := boxS6 bS2
  have ls := bS2.lt
  gi_wp2
  have bW3 := (BoxS.new w2 87 #[.int .i64 al, .int .i64 ah, .int .i64 bl, .int .i64 bh, .slice A cs.length c, .int .i64 wrn]).alloc (.cells #[.int .i64 (cs.length : Nat)] 3)
  have bN3 := BoxS.new (w2.alloc (.cells #[.int .i64 al, .int .i64 ah, .int .i64 bl, .int .i64 bh, .slice A cs.length c, .int .i64 wrn] 87)) 3 #[.int .i64 (cs.length : Nat)]
  rw [World.size_alloc] at bN3
  have hB3 : Below w.heap.size w ((w2.alloc (.cells #[.int .i64 al, .int .i64 ah, .int .i64 bl, .int .i64 bh, .slice A cs.length c, .int .i64 wrn] 87)).alloc (.cells #[.int .i64 (cs.length : Nat)] 3)) := (hB2.alloc hB2.size _).alloc (by have := hB2.size; simp; omega) _
  have hz3 : ((w2.alloc (.cells #[.int .i64 al, .int .i64 ah, .int .i64 bl, .int .i64 bh, .slice A cs.length c, .int .i64 wrn] 87)).alloc (.cells #[.int .i64 (cs.length : Nat)] 3)).heap.size = w2.heap.size + 2 := by simp
  have hws := hB2.size
  clear hB2 bS2 s0 s1 s2 s3 s4 s5
  generalize World.alloc (World.alloc w2 _) _ = w3 at *
  refine wpIn_far (n₀ := w.heap.size) (gf := 58) (pb := #[.agg #[.int .i64 al, .int .i64 ah, .int .i64 bl, .int .i64 bh, .slice A cs.length c, .int .i64 wrn]]) (lb := #[]) rfl (enters_of Try.func58 (by kernel_rfl) rfl)
    (HSEQ.out w3 hB3) (Below.refl _ _) (by omega) (fun _ => rfl)
    (fun (pre : List Sh.FaS) V => (BoxS V w2.heap.size 87 #[.int .i64 al, .int .i64 ah, .int .i64 bl, .int .i64 bh, .slice A cs.length c, .int .i64 wrn] ∧ BoxS V (w2.heap.size + 1) 3 #[.int .i64 (Sh.fewF cs pre)]) ∧ Below w.heap.size w V)
    (fun _ _ _ => False)
    (OwnFrom.and (OwnFrom.and (Own.from (boxS_own _ _ (fun _ => _)) _) (Own.from (boxS_own _ _ (fun pre : List Sh.FaS => #[.int .i64 (Sh.fewF cs pre)])) _)) (ownFrom_below (Nat.le_refl _) (by omega)))
    (fun _ _ _ _ _ hs _ _ => hs)
    ⟨⟨bW3, bN3⟩, hB3⟩
    (fun x a' V => ∃ Bx, w2.heap.size + 1 < Bx ∧ BoxS V Bx 90 #[.int .i64 x.1.1, .int .i64 x.1.2] ∧ a' = { tmps := #[.agg #[.int .i64 al, .int .i64 ah, .int .i64 bl, .int .i64 bh, .slice A cs.length c, .int .i64 wrn], .pointer (some ⟨w.heap.size, 0, none⟩), .int .i64 0, .int .i64 0, .int .i64 0, .pointer (some ⟨w2.heap.size, 0, none⟩), .pointer (some ⟨w2.heap.size + 1, 0, none⟩), .pointer (some ⟨Bx, 0, none⟩), .agg #[.int .i64 al, .int .i64 ah, .int .i64 bl, .int .i64 bh, .slice A cs.length c, .int .i64 wrn], .int .i64 0, .int .i64 0, .bool false, undef, .agg #[.int .i64 al, .int .i64 ah, .int .i64 bl, .int .i64 bh, .slice A cs.length c, .int .i64 wrn], .agg #[.int .i64 al, .int .i64 ah, .int .i64 bl, .int .i64 bh, .slice A cs.length c, .int .i64 wrn], .pointer (some ⟨w.heap.size, 4, none⟩), .slice A cs.length c, .int .i64 (cs.length : Nat), .agg #[.int .i64 al, .int .i64 ah, .int .i64 bl, .int .i64 bh, .slice A cs.length c, .int .i64 wrn], .func (.func 58) #[.agg #[.int .i64 al, .int .i64 ah, .int .i64 bl, .int .i64 bh, .slice A cs.length c, .int .i64 wrn]] #[], .agg #[.int .i64 x.1.1, .int .i64 x.1.2], undef, undef, undef, undef, undef, undef], defers := [] })
    (fun x a' _ X Y row hs hg hr => by obtain ⟨Bx, e1, e2, e3⟩ := hs; exact ⟨Bx, e1, boxS_own Bx 90 (fun (_ : Unit) => #[.int .i64 x.1.1, .int .i64 x.1.2]) () X Y row e2 hg (fun r e => (hr r e).2), e3⟩)
    ?assign ?body ?done ?stop
  case assign =>
    rintro l2 pre x V K ⟨⟨bW, bN⟩, hB⟩ hK
    unfold encFa
    gi_wp2
    exact hK _ _ (Apart.alloc _ _) ⟨⟨bW.alloc _, bN.alloc _⟩, hB.alloc hB.size _⟩ ⟨V.heap.size, bN.lt, BoxS.new V _ _, rfl⟩
  case body =>
    rintro l2 pre x a' V ⟨⟨bW, bN⟩, hB⟩ ⟨Bx, hBx, bX, rfl⟩ hlt
    have HW1 := Lib.hid (fun W (hW : Below V.heap.size V W) => HWR.out x W (hB.trans (hW.mono hB.size)))
    have HA1 := Lib.hid (Sh.few_snoc cs pre x)
    have KC : Hid (∀ V', Below V.heap.size V V' → (V'.cell? ⟨w2.heap.size + 1, 0, none⟩ = some (.int .i64 (Sh.fewF cs pre))) ∧ (V'.cell? ⟨Bx, 0, none⟩ = some (.int .i64 x.1.1) ∧ V'.cell? ⟨Bx, 1, none⟩ = some (.int .i64 x.1.2)) ∧ ((V'.cell? ⟨w2.heap.size, 0, none⟩ = some (.int .i64 al) ∧ V'.cell? ⟨w2.heap.size, 1, none⟩ = some (.int .i64 ah) ∧ V'.cell? ⟨w2.heap.size, 2, none⟩ = some (.int .i64 bl)) ∧ V'.cell? ⟨w2.heap.size, 3, none⟩ = some (.int .i64 bh) ∧ V'.cell? ⟨w2.heap.size, 4, none⟩ = some (.slice A cs.length c) ∧ V'.cell? ⟨w2.heap.size, 5, none⟩ = some (.int .i64 wrn))) :=
      fun V' h => ⟨(bN.below h).cell 0 rfl, boxS2 (bX.below h), boxS6 (bW.below h)⟩
    generalize Sh.fewF cs pre = lo at *
    generalize Sh.wrongN x.1 cs = wn at *
    have hmo : Try.prog.follows .mixedOrders = true := by kernel_rfl
    have q0 : Below V.heap.size V V.drew := (Below.refl _ _).drew
    gi_wp2
    refine wpIn_region_held (fun V' => Below V.heap.size V V') 5 hmo ?_
    refine wpHeldIn_take (i := 0) (v := ?_) (plain_of (by kernel_rfl)) rfl (by kernel_rfl) (fun _ _ _ h => h) (yieldsSoIn_of (by kernel_rfl) ?_ (fun _ => rfl)) q0 ?_; rotate_left; focus (intro wq hw; have kq := KC.out wq hw; clear hw; go_simp; try (with_reducible rfl))
    refine wpHeldIn_take (i := 1) (v := ?_) (plain_of (by kernel_rfl)) rfl (by kernel_rfl) (fun _ _ _ h => h) (yieldsSoIn_of (by kernel_rfl) ?_ (fun _ => rfl)) q0 ?_; rotate_left; focus (intro wq hw; have kq := KC.out wq hw; clear hw; go_simp; try (with_reducible rfl))
    refine wpHeldIn_take (i := 2) (v := ?_) (plain_of (by kernel_rfl)) rfl (by kernel_rfl) (fun _ _ _ h => h) (yieldsSoIn_of (by kernel_rfl) ?_ (fun _ => rfl)) q0 ?_; rotate_left; focus (intro wq hw; have kq := KC.out wq hw; clear hw; go_simp; try (with_reducible rfl))
    refine wpHeldIn_one (i := 3) (by kernel_rfl) (by kernel_rfl) rfl (by kernel_rfl) (fun K1 hK1 => ?_)
    go_simp
    refine ⟨trivial, (CallsIn.inRound l2 (callsIn_wide.2 (HW1.out _ q0))).mono ?_⟩
    rintro e V2 ⟨rfl, hb2⟩
    have q1 := q0.trans (hb2.mono q0.size)
    refine hK1 _ _ q1 ?_
    have bW2 := bW.below q1
    have bN2 := bN.below q1
    have hB2 := hB.trans (q1.mono hB.size)
    have hA2 : Apart w.heap.size w3.heap.size V V2 := Apart.of_below q1
    refine wpHeldIn_take (i := 4) (v := ?_) (plain_of (by kernel_rfl)) rfl (by kernel_rfl) (fun _ _ _ h => h) (yieldsSoIn_of (by kernel_rfl) ?_ (fun _ => rfl)) q1 ?_; rotate_left; focus (intro wq hw; clear hw; go_simp; try (with_reducible rfl))
    have c0 := bN2.cell 0 rfl
    have f0 := bN2.frozen 0
    refine wpHeldIn_last (by kernel_rfl) rfl (by kernel_rfl) (fun K2 hK2 => ?_)
    go_simp
    have hm : ∀ q : Int, min lo q = Sh.lowS lo q := fun q => Sh.low_min lo q
    try simp only [hm]
    refine hK2 _ _ ?_
    refine wpHeldIn_done (by kernel_rfl) ?_ _
    try simp only [hm]
    have bW3' : BoxS (V2.setCell ⟨w2.heap.size + 1, 0, none⟩ (.int .i64 (Sh.lowS lo (wn : Nat)))) w2.heap.size 87 #[.int .i64 al, .int .i64 ah, .int .i64 bl, .int .i64 bh, .slice A cs.length c, .int .i64 wrn] := bW2.away (by omega) _ _
    have bN3' : BoxS (V2.setCell ⟨w2.heap.size + 1, 0, none⟩ (.int .i64 (Sh.lowS lo (wn : Nat)))) (w2.heap.size + 1) 3 #[.int .i64 (Sh.lowS lo (wn : Nat))] := bN2.put1 _
    have hA3 := hA2.trans (Apart.setCell V2 ⟨w2.heap.size + 1, 0, none⟩ (by simp; omega) (by simp; omega) (.int .i64 (Sh.lowS lo (wn : Nat))))
    clear KC q0 q1 c0 f0 hm hb2
    gi_wp2
    first
      | exact ⟨hA3, ⟨bW3', by rw [HA1.out]; exact bN3'⟩, hB.trans (hA3.below hB.size)⟩
      | exact ⟨hA3.trans (Apart.drew _), ⟨bW3', by rw [HA1.out]; exact bN3'⟩, hB.trans ((hA3.trans (Apart.drew _)).below hB.size)⟩
  case done =>
    rintro D0 zs V hD0 rfl ⟨⟨bW, bN⟩, hB⟩ hK
    have c0 := bN.cell 0 rfl
    gi_wp2
    refine ⟨by simp, .inl ⟨_, _, rfl, run_takeDeferred hK, ?_⟩⟩
    exact ⟨.tuple #[.int .i64 (Sh.fewF cs zs), .int .i64 0], by simp [results, Try.f16, go_sem], rfl, hB.trans (belowK_b (w := w) (Nat.le_refl _) V D0 _ _ (by omega) hK rfl rfl)⟩
  case stop =>
    rintro D0 cc pre V hD hpre h hK
    exact h.elim
theorem Fewest_any (s : Sheet) (A : Option Addr) (c : Nat) (w : World) (hl : s.cs.length ≤ 1000000000) (hg : Cts w w.heap.size A s.cs) :
    Calls Try.prog 16 #[.agg (shV s A c)] w (TwoPost (Sh.fewV s) (Sh.chkE s) w) := by
  unfold Sh.fewV
  cases hok : Sh.okB s with
  | false =>
    rw [Sh.chkE_no hok]
    exact Fewest_no s A c w hl hg hok
  | true =>
    rw [Sh.chkE_yes hok]
    exact Fewest_yes s A c w hok hg

set_option maxRecDepth 100000 in
set_option maxHeartbeats 4000000 in
theorem Fewest4_any (s : Sheet) (A : Option Addr) (c : Nat) (w : World) (hl : s.cs.length ≤ 1000000000) (hg : Cts w w.heap.size A s.cs) :
    Calls Try.prog 42 #[.agg (shV s A c)] w (TwoPost (Sh.fewV s) (Sh.chkE s) w) := by
  have HC : Hid (∀ W, Below w.heap.size w W → Calls Try.prog 27 #[.agg (shV s A c)] W (ErrPost (Sh.chkE s) W)) := fun W hW => refCheck4_any s A c W hl ((hg.keep hW).wider hW.size)
  unfold Sh.fewV
  cases hok : Sh.okB s with
  | false =>
    rw [Sh.chkE_no hok] at HC ⊢
    rw [if_neg (by decide)]
    clear hg hl hok
    obtain ⟨al, ah, bl, bh, cs, wrn⟩ := s
    unfold shV at *
    dsimp only at *
    go_enter Try.func42, Try.ntmps42
    go_wp2_with fail
    have hB1 : Below w.heap.size w (w.alloc (.cells #[.int .i64 al, .int .i64 ah, .int .i64 bl, .int .i64 bh, .slice A cs.length c, .int .i64 wrn] 26)) := by (repeat' (first | (with_reducible exact Below.refl _ _) | (with_reducible assumption) | (with_reducible refine Below.alloc ?_ ?_ _) | (with_reducible refine Below.drew ?_) | (with_reducible refine Below.setCell ?_ ?_ _) | go_size | (exact (by simp)) | omega))
    generalize World.alloc w _ = w1 at *
    refine (HC.out _ hB1).mono ?_
    rintro e w2 ⟨rfl, hb2⟩
    have hB2 := hB1.trans (hb2.mono hB1.size)
    go_wp2_with fail
    go_returns
    exact ⟨rfl, hB2⟩
  | true =>
    rw [Sh.chkE_yes hok] at HC ⊢
    rw [if_pos rfl]
    have hs := Sh.ok_of hok
    have hn8 := hs.n
    have HP : Hid (∀ W, Calls Try.prog 98 #[.agg (shV s A c)] W (PrsPost (Sh.vals (Sh.casesL s)) W)) := fun W => pairs4_any s hs A c W
    have HWR : Hid (∀ k, k < (Sh.casesL s).length → ∀ W, Below w.heap.size w W → Calls Try.prog 94 #[.agg (shV s A c), .agg #[.int .i64 (Geo.ptAt (Sh.vals (Sh.casesL s)) k).1, .int .i64 (Geo.ptAt (Sh.vals (Sh.casesL s)) k).2]] W fun e w' => e = .returned (.int .i64 (Sh.wrongN (Geo.ptAt (Sh.vals (Sh.casesL s)) k) s.cs : Nat)) ∧ Below W.heap.size W w') := fun k hk W hW => Wrongs4_any s A c _ W (by omega) (Sh.vals_sm _ hk) (fun k hk => Sh.ctB_sm (hs.c k hk)) ((hg.keep hW).wider hW.size)
    have HST : Hid (∀ k, k < (Sh.casesL s).length → Sh.fewF s.cs ((Sh.casesL s).take (k + 1)) = Sh.lowS (Sh.fewF s.cs ((Sh.casesL s).take k)) (Sh.wrongN (Geo.ptAt (Sh.vals (Sh.casesL s)) k) s.cs : Nat)) := fun k hk => by
      rw [Sh.vals_at hk, List.take_succ_eq_append_getElem hk, Sh.few_snoc]
    have HEN : Hid (Sh.fewF s.cs ((Sh.casesL s).take (Sh.casesL s).length) = Sh.fewF s.cs (Sh.casesL s)) := by rw [List.take_length]; rfl
    obtain ⟨FF, hFF⟩ : ∃ FF : Nat → Int, ∀ k, FF k = Sh.fewF s.cs ((Sh.casesL s).take k) := ⟨_, fun _ => rfl⟩
    have h00 : FF 0 = (s.cs.length : Nat) := by rw [hFF]; rfl
    simp only [← hFF] at HST HEN
    have hlen := Sh.casesL_len s hs
    have hvl : (Sh.casesL s).length = (Sh.vals (Sh.casesL s)).length := (Sh.vals_len _).symm
    rw [hvl] at hlen HST HWR HEN
    generalize Sh.vals (Sh.casesL s) = P at *
    generalize Sh.fewF s.cs (Sh.casesL s) = RES at *
    clear hg hl hok hs hFF hvl
    obtain ⟨al, ah, bl, bh, cs, wrn⟩ := s
    unfold shV at HC HP HWR ⊢
    dsimp only at *
    go_enter Try.func42, Try.ntmps42
    go_wp2_with fail
    have hB1 : Below w.heap.size w (w.alloc (.cells #[.int .i64 al, .int .i64 ah, .int .i64 bl, .int .i64 bh, .slice A cs.length c, .int .i64 wrn] 26)) := by (repeat' (first | (with_reducible exact Below.refl _ _) | (with_reducible assumption) | (with_reducible refine Below.alloc ?_ ?_ _) | (with_reducible refine Below.drew ?_) | (with_reducible refine Below.setCell ?_ ?_ _) | go_size | (exact (by simp)) | omega))
    have bS1 := BoxS.new w 26 #[.int .i64 al, .int .i64 ah, .int .i64 bl, .int .i64 bh, .slice A cs.length c, .int .i64 wrn]
    generalize World.alloc w _ = w1 at *
    refine (HC.out _ hB1).mono ?_
    rintro e2 w2 ⟨rfl, hb2⟩
    have bS2 := bS1.below hb2
    have hB2 := hB1.trans (hb2.mono hB1.size)
    clear bS1 hb2 hB1 HC
    obtain ⟨⟨s0, s1, s2⟩, s3, s4, s5⟩ := boxS6 bS2
    go_wp2_with fail
    refine (HP.out _).mono ?_
    rintro e3 w3 ⟨A3, c3, rfl, hP3, hb3⟩
    have bS3 := bS2.below hb3
    have hB3 := hB2.trans (hb3.mono hB2.size)
    clear s0 s1 s2 s3 s4 s5 bS2 hb3 hB2 HP
    go_wp2_with fail
    go_loopg [5, 7] P.length (fun g x5 x7 wx => ∃ k : Nat, Hid (k + g = P.length) ∧ (k : Int) ≤ P.length ∧ x7 = .int .i64 k ∧ x5 = .int .i64 (FF k) ∧ Below w.heap.size w wx ∧ Below w3.heap.size w3 wx)
    case atStart => exact ⟨0, by simp [Hid], by omega, rfl, by rw [h00], hB3, Below.refl _ _⟩
    case round =>
      obtain ⟨k, hk, hk1, rfl, rfl, hB, hbb⟩ := hrel
      have hk0 := Int.natCast_nonneg k
      by_cases hlt : (k : Int) < P.length
      · clear hB3
        have hkn : k < P.length := by omega
        have hPk : P[k]? = some (Geo.ptAt P k) := by unfold Geo.ptAt; rw [List.getElem?_eq_getElem hkn]; rfl
        obtain ⟨bp, op, rfl, hbp, hcp⟩ := hP3.out (by omega)
        obtain ⟨h0, h1⟩ := hcp k _ hPk
        have HCC : Hid (∀ W', Below wr.heap.size wr W' → (W'.cell? ⟨bp, op + k * 2, none⟩ = some (.int .i64 (Geo.ptAt P k).1) ∧ W'.cell? ⟨bp, op + k * 2 + 1, none⟩ = some (.int .i64 (Geo.ptAt P k).2)) ∧ ((W'.cell? ⟨w.heap.size, 0, none⟩ = some (.int .i64 al) ∧ W'.cell? ⟨w.heap.size, 1, none⟩ = some (.int .i64 ah) ∧ W'.cell? ⟨w.heap.size, 2, none⟩ = some (.int .i64 bl)) ∧ W'.cell? ⟨w.heap.size, 3, none⟩ = some (.int .i64 bh) ∧ W'.cell? ⟨w.heap.size, 4, none⟩ = some (.slice A cs.length c) ∧ W'.cell? ⟨w.heap.size, 5, none⟩ = some (.int .i64 wrn))) := fun W' hW => by
          have hBW := hbb.trans (hW.mono hbb.size)
          exact ⟨⟨(hBW.cell (p := ⟨bp, _, none⟩) hbp).trans h0, (hBW.cell (p := ⟨bp, _, none⟩) hbp).trans h1⟩, boxS6 (bS3.below hBW)⟩
        have HS := Lib.hid (HST.out k hkn)
        have HW1 := Lib.hid (fun W (hW : Below wr.heap.size wr W) => HWR.out k hkn W (hB.trans (hW.mono hB.size)))
        have hw1 : IntKind.i64.wrap ((k : Int) + 1) = (k : Int) + 1 := IntWalk.i64_in _ (by omega)
        clear h0 h1 hcp hPk
        generalize Sh.wrongN (Geo.ptAt P k) cs = wn at *
        generalize FF k = lo at *
        generalize Geo.ptAt P k = q at *
        obtain ⟨q1, q2⟩ := q
        dsimp only at HCC HW1
        have hm : min lo (wn : Nat) = FF (k + 1) := by rw [HS.out, Sh.low_min]
        go_wp2_with fail
        refine (wpIn_wide (n := 4)).1 ?_
        have hmo : Try.prog.follows .mixedOrders = true := by kernel_rfl
        have q0 : Below wr.heap.size wr wr.drew := (Below.refl _ _).drew
        refine wpIn_region_held (fun W' => Below wr.heap.size wr W') 30 hmo ?_
        refine wpHeldIn_take (i := 0) (v := ?_) (plain_of (by kernel_rfl)) rfl (by kernel_rfl) (fun _ _ _ h => h) (yieldsSoIn_of (by kernel_rfl) ?_ (fun _ => rfl)) q0 ?_; rotate_left; focus (intro wq hw; clear hw; go_simp; try (with_reducible rfl))
        refine wpHeldIn_take (i := 1) (v := ?_) (plain_of (by kernel_rfl)) rfl (by kernel_rfl) (fun _ _ _ h => h) (yieldsSoIn_of (by kernel_rfl) ?_ (fun _ => rfl)) q0 ?_; rotate_left; focus (intro wq hw; have kq := HCC.out wq hw; clear hw; go_simp; try (with_reducible rfl))
        refine wpHeldIn_take (i := 2) (v := ?_) (plain_of (by kernel_rfl)) rfl (by kernel_rfl) (fun _ _ _ h => h) (yieldsSoIn_of (by kernel_rfl) ?_ (fun _ => rfl)) q0 ?_; rotate_left; focus (intro wq hw; clear hw; go_simp; try (with_reducible rfl))
        refine wpHeldIn_take (i := 3) (v := ?_) (plain_of (by kernel_rfl)) rfl (by kernel_rfl) (fun _ _ _ h => h) (yieldsSoIn_of (by kernel_rfl) ?_ (fun _ => rfl)) q0 ?_; rotate_left; focus (intro wq hw; clear hw; go_simp; try (with_reducible rfl))
        refine wpHeldIn_take (i := 4) (v := ?_) (plain_of (by kernel_rfl)) rfl (by kernel_rfl) (fun _ _ _ h => h) (yieldsSoIn_of (by kernel_rfl) ?_ (fun _ => rfl)) q0 ?_; rotate_left; focus (intro wq hw; clear hw; go_simp; try (with_reducible rfl))
        refine wpHeldIn_take (i := 5) (v := ?_) (plain_of (by kernel_rfl)) rfl (by kernel_rfl) (fun _ _ _ h => h) (yieldsSoIn_of (by kernel_rfl) ?_ (fun _ => rfl)) q0 ?_; rotate_left; focus (intro wq hw; have kq := HCC.out wq hw; clear hw; go_simp; try (with_reducible rfl))
        refine wpHeldIn_one (i := 6) (by kernel_rfl) (by kernel_rfl) rfl (by kernel_rfl) (fun K1 hK1 => ?_)
        go_simp
        refine ⟨trivial, (callsIn_wide.2 (HW1.out _ q0)).mono ?_⟩
        rintro e6 w6 ⟨rfl, hb6⟩
        have q1' := q0.trans (hb6.mono q0.size)
        refine hK1 _ _ q1' ?_
        refine wpHeldIn_take (i := 7) (v := ?_) (plain_of (by kernel_rfl)) rfl (by kernel_rfl) (fun _ _ _ h => h) (yieldsSoIn_of (by kernel_rfl) ?_ (fun _ => rfl)) q1' ?_; rotate_left; focus (intro wq hw; clear hw; go_simp; try (with_reducible rfl))
        refine wpHeldIn_take (i := 8) (v := ?_) (plain_of (by kernel_rfl)) rfl (by kernel_rfl) (fun _ _ _ h => h) (yieldsSoIn_of (by kernel_rfl) ?_ (fun _ => rfl)) q1' ?_; rotate_left; focus (intro wq hw; clear hw; go_simp; try (with_reducible rfl))
        refine wpHeldIn_done (by kernel_rfl) ?_ _
        go_simp
        have hB6 := hB.trans (q1'.mono hB.size)
        have hbb6 := hbb.trans (q1'.mono hbb.size)
        clear hb6 q0 q1' HCC HW1
        go_wp2_with fail
        obtain ⟨g', hg'⟩ : ∃ g', gk = g' + 1 := ⟨gk - 1, by have := hk.out; omega⟩
        go_roundg g'
        case measure => omega
        case rel => exact ⟨k + 1, by have := hk.out; simp only [Hid]; omega, by omega, by go_num, by first | rfl | rw [hm], hB6, hbb6⟩
      · obtain rfl : k = P.length := by omega
        have HE2 := Lib.hid HEN.out
        go_wp2_with fail
        go_returns
        exact ⟨by rw [← HE2.out]; rfl, hB⟩
end Go.Proofs.Ytgpmnkdagpcffaa
