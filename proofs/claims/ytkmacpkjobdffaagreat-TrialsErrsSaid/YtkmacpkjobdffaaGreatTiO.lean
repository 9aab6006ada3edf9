/- Trials: what is asked of all truths, each number once, sorted. -/
import Derived.Test.YtkmacpkjobdffaaGreatTiN
namespace Go.Proofs.YtkmacpkjobdffaaGreat
open Go.RowKit Go.Shelf Go.Maps
attribute [local go_sem] Oper.semAt_some
namespace Ti
def mapT {H : Type} (f : Gk → Int) (L : List GkS) : DataW H := L.foldl (fun D x => D.put (.int .i64 (f x.1)) (.lit (.bool true))) (.map [])
theorem mapT_snoc {H : Type} (f : Gk → Int) (L : List GkS) (x : GkS) : mapT (H := H) f (L ++ [x]) = (mapT f L).put (.int .i64 (f x.1)) (.lit (.bool true)) := by unfold mapT; rw [List.foldl_append]; rfl
/-- What is asked of all truths, each number once, sorted. -/
def allT (f : Gk → Int) (L : List GkS) : List Int := (intKeys (mapT (H := Empty) f L)).mergeSort (fun x y => decide (x ≤ y))
def allE (f : Gk → Int) (E : Int) (t : Tri) : List Int := if E = 0 then allT f (truthsL t) else []
end Ti
set_option maxRecDepth 100000 in
set_option maxHeartbeats 8000000 in
theorem allT_any (t : Ti.Tri) (valid : Bool) (g : FuncId) (f : Ti.Gk → Int) (HE : ∀ args W, (callFunc g args).run Tryz.prog W = .ok (.enter g args) W) (hf : ∀ x : Ti.GkS, -1000000 ≤ f x.1 ∧ f x.1 ≤ 1000000)
    (A : Option Addr) (c : Nat) (w : World) (hl : t.ts.length ≤ 1000000000) (hg : Tsts w w.heap.size A t.ts) (HO : Hid (∀ (x : Ti.GkS) W, Calls Tryz.prog g #[.agg #[.int .i64 x.1.1, .int .i64 x.1.2]] W fun e w' => e = .returned (.int .i64 (f x.1)) ∧ Below W.heap.size W w')) :
    Calls Tryz.prog 57 #[.agg (tiV t A c), .bool valid, .func (.func g) #[] #[]] w (IntsEPost (Ti.allE f (Ti.opE t valid) t) (Ti.opE t valid) w) := by
  have HOP : Hid (∀ W, Below w.heap.size w W → Calls Tryz.prog 54 #[.agg (tiV t A c), .bool valid] W (OpPost (Ti.opE t valid) t A c W)) := fun W hW => openT_any t valid A c W hl ((hg.keep hW).wider hW.size)
  have HSEQ : Hid (Ti.opE t valid = 0 → ∀ (AL : Option Addr) (cm n₀ : Nat) w', n₀ ≤ w'.heap.size → SeqFarG Tryz.prog (fun V => Alw V V.heap.size AL t) 55 #[.agg (fV t A c AL t.ts.length cm)] #[] encGk n₀ (fun ys => ys = Ti.truthsL t) (fun pre => pre <+: Ti.truthsL t) 5000 w') := fun h0 AL cm n₀ w' h => by
    obtain ⟨h1, _, _⟩ := Ti.op_ok h0
    obtain ⟨g1, g2, g3, _⟩ := Ti.chk_ok h1
    exact truthsT_far t g1 g2 (by omega) A c AL cm n₀ w' h
  have HAK : Hid (∀ AL V V', Alw V V.heap.size AL t → Below V.heap.size V V' → Alw V' V'.heap.size AL t) := fun AL V V' h hb => (h.keep hb).wider hb.size
  have HLE : Hid (Ti.allE f (Ti.opE t valid) t = if Ti.opE t valid = 0 then Ti.allT f (Ti.truthsL t) else []) := rfl
  have HLN : Hid (Ti.opE t valid = 0 → (Ti.truthsL t).length ≤ 5000) := fun h0 => by
    obtain ⟨h1, _, _⟩ := Ti.op_ok h0
    obtain ⟨g1, g2, g3, _⟩ := Ti.chk_ok h1
    have h4 : (Ti.truthsL t).length ≤ (Ti.casesL t).length := List.length_filter_le _ _
    have h5 : (Ti.casesL t).length = Ti.nG t * Ti.nS t := Ti.casesTo_len t _
    have h6 : Ti.nG t * Ti.nS t ≤ 101 * 41 := Nat.mul_le_mul (by unfold Ti.nG; omega) (by unfold Ti.nS; omega)
    omega
  have HF := Lib.hid hf
  have hmm := @run_makeMap Tryz.prog
  unfold OpPost at HOP
  have HOV : Hid (∀ AL cm, opV (Ti.opE t valid) t A c AL cm = if Ti.opE t valid = 0 then fV t A c AL t.ts.length cm else #[.int .i64 0, .int .i64 0, .int .i64 0, .int .i64 0, .int .i64 0, .int .i64 0, .int .i64 0, .int .i64 0, .int .i64 0, .slice none 0 0, .slice none 0 0]) := fun AL cm => rfl
  clear hg hf
  generalize opV (Ti.opE t valid) t A c = OV at *
  generalize Ti.allE f (Ti.opE t valid) t = LE at *
  generalize Ti.opE t valid = E at *
  generalize Ti.truthsL t = TL at *
  obtain ⟨AW, hAW⟩ : ∃ AW : Option Addr → World → Prop, AW = fun AL V => Alw V V.heap.size AL t := ⟨_, rfl⟩
  have HAW : ∀ AL V, Alw V V.heap.size AL t = AW AL V := fun AL V => by rw [hAW]
  simp only [HAW] at HAK HSEQ HOP
  clear HAW hAW
  unfold fV at *
  unfold tiV at *
  unfold IntsEPost
  obtain ⟨d, gain, ts⟩ := t
  obtain ⟨full, read, slip, skew, circ, glo, ghi, wrn, dws⟩ := d
  dsimp only at *
  by_cases h0 : E = 0
  · subst h0
    have HL1 : Hid (LE = Ti.allT f TL) := by unfold Hid; rw [HLE.out, if_pos rfl]
    have HSQ := Lib.hid (HSEQ.out rfl)
    have HOV1 : Hid (∀ AL cm, OV AL cm = #[.int .i64 full, .int .i64 read, .int .i64 slip, .int .i64 skew, .int .i64 circ, .int .i64 glo, .int .i64 ghi, .int .i64 wrn, .int .i64 gain, .slice A ts.length c, .slice AL ts.length cm]) := fun AL cm => by rw [HOV.out, if_pos rfl]
    clear HLE HSEQ HOV
    refine (callsIn_wide (n := 8)).1 ?_
    refine callsIn_of_wp_marks Tryz.func57 rfl trivial ?_ rfl
    simp only [Tryz.ntmps57, List.size_toArray, List.length_cons, List.length_nil, Nat.reduceAdd, Nat.reduceSub, Array.replicate_succ, Array.replicate_zero, List.push_toArray, List.append_toArray, List.nil_append, List.cons_append]
    gi_wp2
    have bF := BoxS.new (w.alloc (.cells #[.int .i64 full, .int .i64 read, .int .i64 slip, .int .i64 skew, .int .i64 circ, .int .i64 glo, .int .i64 ghi, .int .i64 wrn, .int .i64 gain, .slice A ts.length c] 28)) 94 #[.func (.func g) #[] #[]]
    have hB1 : Below w.heap.size w ((w.alloc (.cells #[.int .i64 full, .int .i64 read, .int .i64 slip, .int .i64 skew, .int .i64 circ, .int .i64 glo, .int .i64 ghi, .int .i64 wrn, .int .i64 gain, .slice A ts.length c] 28)).alloc (.cells #[.func (.func g) #[] #[]] 94)) := by (repeat' (first | (with_reducible exact Below.refl _ _) | (with_reducible assumption) | (with_reducible refine Below.alloc ?_ ?_ _) | (with_reducible refine Below.drew ?_) | (with_reducible refine Below.setCell ?_ ?_ _) | go_size | (exact (by simp)) | omega))
    rw [World.size_alloc] at bF
    generalize World.alloc (World.alloc w _) _ = w1 at *
    refine ⟨trivial, (callsIn_wide.2 (HOP.out _ hB1)).mono ?_⟩
    rintro e w2 ⟨AL, cm, rfl, hal, hb2⟩
    rw [HOV1.out]
    have bF2 := bF.below hb2
    have hB2 := hB1.trans (hb2.mono hB1.size)
    have lF := bF2.lt
    have hal2 : AW AL w2 := by first | exact hal.out rfl | exact hal.out trivial
    clear HOV1 HOP bF hB1 hb2 hal
    gi_wp2
    have bF5 : BoxS (((w2.alloc (.cells #[.int .i64 full, .int .i64 read, .int .i64 slip, .int .i64 skew, .int .i64 circ, .int .i64 glo, .int .i64 ghi, .int .i64 wrn, .int .i64 gain, .slice A ts.length c, .slice AL ts.length cm] 84)).alloc (.map #[] 0)).alloc (.cells #[.map (some (w2.heap.size + 1))] 128)) (w.heap.size + 1) 94 #[.func (.func g) #[] #[]] := ((bF2.alloc _).alloc _).alloc _
    have bV5 : BoxS (((w2.alloc (.cells #[.int .i64 full, .int .i64 read, .int .i64 slip, .int .i64 skew, .int .i64 circ, .int .i64 glo, .int .i64 ghi, .int .i64 wrn, .int .i64 gain, .slice A ts.length c, .slice AL ts.length cm] 84)).alloc (.map #[] 0)).alloc (.cells #[.map (some (w2.heap.size + 1))] 128)) (w2.heap.size + 1 + 1) 128 #[.map (some (w2.heap.size + 1))] := by
      have := BoxS.new ((w2.alloc (.cells #[.int .i64 full, .int .i64 read, .int .i64 slip, .int .i64 skew, .int .i64 circ, .int .i64 glo, .int .i64 ghi, .int .i64 wrn, .int .i64 gain, .slice A ts.length c, .slice AL ts.length cm] 84)).alloc (.map #[] 0)) 128 #[.map (some (w2.heap.size + 1))]
      simp only [World.size_alloc] at this
      exact this
    have hown5 : (((w2.alloc (.cells #[.int .i64 full, .int .i64 read, .int .i64 slip, .int .i64 skew, .int .i64 circ, .int .i64 glo, .int .i64 ghi, .int .i64 wrn, .int .i64 gain, .slice A ts.length c, .slice AL ts.length cm] 84)).alloc (.map #[] 0)).alloc (.cells #[.map (some (w2.heap.size + 1))] 128)).ownsMap Tryz.prog 3 (plainElem (H := Empty) Tryz.prog 4) (w2.heap.size + 1) 0 (Ti.mapT f []) := by
      have := World.ownsMap_made (H := Empty) (w2.alloc (.cells #[.int .i64 full, .int .i64 read, .int .i64 slip, .int .i64 skew, .int .i64 circ, .int .i64 glo, .int .i64 ghi, .int .i64 wrn, .int .i64 gain, .slice A ts.length c, .slice AL ts.length cm] 84)) Tryz.prog 3 (plainElem Tryz.prog 4)
      simp only [World.size_alloc] at this
      exact this.alloc _
    have hB5 : Below w2.heap.size w2 (((w2.alloc (.cells #[.int .i64 full, .int .i64 read, .int .i64 slip, .int .i64 skew, .int .i64 circ, .int .i64 glo, .int .i64 ghi, .int .i64 wrn, .int .i64 gain, .slice A ts.length c, .slice AL ts.length cm] 84)).alloc (.map #[] 0)).alloc (.cells #[.map (some (w2.heap.size + 1))] 128)) := by (repeat' (first | (with_reducible exact Below.refl _ _) | (with_reducible assumption) | (with_reducible refine Below.alloc ?_ ?_ _) | (with_reducible refine Below.drew ?_) | (with_reducible refine Below.setCell ?_ ?_ _) | go_size | (exact (by simp)) | omega))
    have hz5 : (((w2.alloc (.cells #[.int .i64 full, .int .i64 read, .int .i64 slip, .int .i64 skew, .int .i64 circ, .int .i64 glo, .int .i64 ghi, .int .i64 wrn, .int .i64 gain, .slice A ts.length c, .slice AL ts.length cm] 84)).alloc (.map #[] 0)).alloc (.cells #[.map (some (w2.heap.size + 1))] 128)).heap.size = w2.heap.size + 3 := by simp
    have hw2s := hB2.size
    clear bF2
    generalize World.alloc (World.alloc (World.alloc w2 _) _) _ = w5 at *
    refine wpIn_farG (n₀ := w2.heap.size) (gf := 55) (pb := #[.agg #[.int .i64 full, .int .i64 read, .int .i64 slip, .int .i64 skew, .int .i64 circ, .int .i64 glo, .int .i64 ghi, .int .i64 wrn, .int .i64 gain, .slice A ts.length c, .slice AL ts.length cm]]) (lb := #[]) rfl (enters_of Tryz.func55 (by kernel_rfl) rfl)
      (HSQ.out AL cm w2.heap.size w5 (by omega)) (Below.refl _ _) (by omega) (fun _ => rfl)
      (fun (pre : List Ti.GkS) V => ((BoxS V (w.heap.size + 1) 94 #[.func (.func g) #[] #[]] ∧ BoxS V (w2.heap.size + 1 + 1) 128 #[.map (some (w2.heap.size + 1))]) ∧ V.ownsMap Tryz.prog 3 (plainElem (H := Empty) Tryz.prog 4) (w2.heap.size + 1) pre.length (Ti.mapT f pre)) ∧ Below w2.heap.size w2 V)
      (fun _ _ _ => False)
      (fun pre V h => HAK.out _ _ _ hal2 h.2)
      (OwnFrom.and (OwnFrom.and (OwnFrom.and (Own.from (boxS_own _ _ (fun _ => _)) _) (Own.from (boxS_own _ _ (fun _ => _)) _)) (fun s X Y row hs hg hr => hs.kept hg (fun e => by have := (hr _ e.symm).1; omega))) (ownFrom_below (Nat.le_refl _) (by omega)))
      (fun _ _ _ _ _ hs _ _ => hs)
      ⟨⟨⟨bF5, bV5⟩, hown5⟩, hB5⟩
      (fun x a' V => ∃ Bx, w2.heap.size + 2 < Bx ∧ BoxS V Bx 93 #[.int .i64 x.1.1, .int .i64 x.1.2] ∧ a' = { tmps := #[.agg #[.int .i64 full, .int .i64 read, .int .i64 slip, .int .i64 skew, .int .i64 circ, .int .i64 glo, .int .i64 ghi, .int .i64 wrn, .int .i64 gain, .slice A ts.length c], .bool valid, .func (.func g) #[] #[], .pointer (some ⟨w.heap.size, 0, none⟩), undef, .pointer (some ⟨w.heap.size + 1, 0, none⟩), .slice none 0 0, .int .i64 0, .pointer (some ⟨w2.heap.size, 0, none⟩), .int .i64 0, .pointer (some ⟨w2.heap.size + 1 + 1, 0, none⟩), .pointer (some ⟨Bx, 0, none⟩), .tuple #[.agg #[.int .i64 full, .int .i64 read, .int .i64 slip, .int .i64 skew, .int .i64 circ, .int .i64 glo, .int .i64 ghi, .int .i64 wrn, .int .i64 gain, .slice A ts.length c, .slice AL ts.length cm], .int .i64 0], .agg #[.int .i64 full, .int .i64 read, .int .i64 slip, .int .i64 skew, .int .i64 circ, .int .i64 glo, .int .i64 ghi, .int .i64 wrn, .int .i64 gain, .slice A ts.length c], .bool valid, .tuple #[.agg #[.int .i64 full, .int .i64 read, .int .i64 slip, .int .i64 skew, .int .i64 circ, .int .i64 glo, .int .i64 ghi, .int .i64 wrn, .int .i64 gain, .slice A ts.length c, .slice AL ts.length cm], .int .i64 0], .agg #[.int .i64 full, .int .i64 read, .int .i64 slip, .int .i64 skew, .int .i64 circ, .int .i64 glo, .int .i64 ghi, .int .i64 wrn, .int .i64 gain, .slice A ts.length c, .slice AL ts.length cm], .int .i64 0, .int .i64 0, .bool false, undef, .map (some (w2.heap.size + 1)), .agg #[.int .i64 full, .int .i64 read, .int .i64 slip, .int .i64 skew, .int .i64 circ, .int .i64 glo, .int .i64 ghi, .int .i64 wrn, .int .i64 gain, .slice A ts.length c, .slice AL ts.length cm], .func (.func 55) #[.agg #[.int .i64 full, .int .i64 read, .int .i64 slip, .int .i64 skew, .int .i64 circ, .int .i64 glo, .int .i64 ghi, .int .i64 wrn, .int .i64 gain, .slice A ts.length c, .slice AL ts.length cm]] #[], .agg #[.int .i64 x.1.1, .int .i64 x.1.2], undef, undef, undef, undef, undef, undef, undef], defers := [] })
      (fun x a' _ X Y row hs hg hr => by obtain ⟨Bx, e1, e2, e3⟩ := hs; exact ⟨Bx, e1, boxS_own Bx 93 (fun (_ : Unit) => #[.int .i64 x.1.1, .int .i64 x.1.2]) () X Y row e2 hg (fun r e => (hr r e).2), e3⟩)
      ?assign ?body ?done ?stop
    case assign =>
      rintro l2 pre x V K ⟨⟨⟨bF, bV⟩, hown⟩, hB⟩ hK
      unfold encGk
      gi_wp2
      exact hK _ _ (Apart.alloc _ _) ⟨⟨⟨bF.alloc _, bV.alloc _⟩, hown.alloc _⟩, hB.alloc hB.size _⟩ ⟨V.heap.size, bV.lt, BoxS.new V _ _, rfl⟩
    case body =>
      rintro l2 pre x a' V ⟨⟨⟨bF, bV⟩, hown⟩, hB⟩ ⟨Bx, hBx, bX, rfl⟩ hlt
      have hmo : Tryz.prog.follows .mixedOrders = true := by kernel_rfl
      have hmax : (500000 : Nat) < maxLen := by decide
      have q0 : Below V.heap.size V V.drew := (Below.refl _ _).drew
      have HO1 : Hid (∀ W, Calls Tryz.prog g #[.agg #[.int .i64 x.1.1, .int .i64 x.1.2]] W fun e w' => e = .returned (.int .i64 (f x.1)) ∧ Below W.heap.size W w') := fun W => HO.out x W
      have KC : Hid (∀ V', Below V.heap.size V V' → V'.cell? ⟨w.heap.size + 1, 0, none⟩ = some (.func (.func g) #[] #[]) ∧ V'.cell? ⟨w2.heap.size + 1 + 1, 0, none⟩ = some (.map (some (w2.heap.size + 1))) ∧ V'.cell? ⟨Bx, 0, none⟩ = some (.int .i64 x.1.1) ∧ V'.cell? ⟨Bx, 1, none⟩ = some (.int .i64 x.1.2)) :=
        fun V' h => ⟨(bF.below h).cell 0 rfl, (bV.below h).cell 0 rfl, (bX.below h).cell 0 rfl, (bX.below h).cell 1 rfl⟩
      have hBs := hB.size
      gi_wp2
      refine wpIn_region_held (fun V' => Below V.heap.size V V') 4 hmo ?_
      refine wpHeldIn_take (i := 0) (v := ?_) (plain_of (by kernel_rfl)) rfl (by kernel_rfl) (fun _ _ _ h => h) (yieldsSoIn_of (by kernel_rfl) ?_ (fun _ => rfl)) q0 ?_; rotate_left; focus (intro wq hw; have kq := KC.out wq hw; clear hw; go_simp; try (with_reducible rfl))
      refine wpHeldIn_take (i := 1) (v := ?_) (plain_of (by kernel_rfl)) rfl (by kernel_rfl) (fun _ _ _ h => h) (yieldsSoIn_of (by kernel_rfl) ?_ (fun _ => rfl)) q0 ?_; rotate_left; focus (intro wq hw; have kq := KC.out wq hw; clear hw; go_simp; try (with_reducible rfl))
      refine wpHeldIn_take (i := 2) (v := ?_) (plain_of (by kernel_rfl)) rfl (by kernel_rfl) (fun _ _ _ h => h) (yieldsSoIn_of (by kernel_rfl) ?_ (fun _ => rfl)) q0 ?_; rotate_left; focus (intro wq hw; have kq := KC.out wq hw; clear hw; go_simp; try (with_reducible rfl))
      refine wpHeldIn_one (i := 3) (by kernel_rfl) (by kernel_rfl) rfl (by kernel_rfl) (fun K1 hK1 => ?_)
      go_simp
      refine ⟨trivial, (CallsIn.inRound l2 (callsIn_wide.2 (HO1.out _))).mono ?_⟩
      rintro e V2 ⟨rfl, hb2⟩
      have q1 := q0.trans (hb2.mono q0.size)
      refine hK1 _ _ q1 ?_
      refine wpHeldIn_last (by kernel_rfl) rfl (by kernel_rfl) (fun K2 hK2 => ?_)
      refine wpIn_mapUpdate_at _ _ _ _ 128 rfl 3 4 (Maps.int_keyed Tryz.underlying3) Tryz.underlying128 _ (w2.heap.size + 1) pre.length _ rfl (ownsMap_below hown q1) (by omega) _ _ _ rfl rfl (Maps.keyOf_int_mk Tryz.underlying3 (wf_small (HF.out x))) _ [] (plainElem_bool Tryz.underlying4 true) ?_
      intro V3 hown3 hg3
      refine hK2 _ _ ?_
      refine wpHeldIn_done (by kernel_rfl) ?_ _
      go_simp
      gi_wp2
      have hA3 : Apart w2.heap.size w5.heap.size V V3 := (Apart.of_below q1).trans (Apart.grown hg3 (fun k e => by cases e; omega))
      exact ⟨hA3, ⟨⟨(bF.below q1).kept hg3 (fun e => by injection e with e; omega), (bV.below q1).kept hg3 (fun e => by injection e with e; omega)⟩, by rw [List.length_append, Ti.mapT_snoc]; exact hown3⟩, hB.trans (hA3.below hB.size)⟩
    case done =>
      rintro D0 zs V hD0 rfl ⟨⟨⟨bF, bV⟩, hown⟩, hB⟩ hK
      have v0 := bV.cell 0 rfl
      have hsz := hown.size_le
      have hmax : (500000 : Nat) < maxLen := by decide
      have hln : zs.length ≤ 5000 := by first | exact HLN.out rfl | exact HLN.out trivial | exact HLN.out
      have HS := Lib.hid (sorted_call (w2.heap.size + 1) _ _ _ V hown (by omega) (by omega))
      have HKY : Hid (∀ W, Calls Tryz.prog 96 #[.map (some (w2.heap.size + 1))] W fun e w' => e = .returned (.func (.func 114) #[] #[.pointer (some ⟨W.heap.size, 0, none⟩)]) ∧ w' = W.alloc (.cells #[.map (some (w2.heap.size + 1))] 128)) := fun W => keys_call (some (w2.heap.size + 1)) W
      rw [show (intKeys (Ti.mapT (H := Empty) f zs)).mergeSort (fun x y => decide (x ≤ y)) = Ti.allT f zs from rfl] at HS
      clear hown bF bV hmm
      obtain ⟨FL, hFL⟩ : ∃ FL, FL = Ti.allT f zs := ⟨_, rfl⟩
      rw [← hFL] at HS
      have HL2 : Hid (LE = FL) := by unfold Hid; rw [HL1.out, hFL]
      clear hFL
      gi_wp2
      refine ⟨trivial, (callsIn_wide.2 (HKY.out _)).mono ?_⟩
      rintro e V2 ⟨rfl, rfl⟩
      gi_wp2
      refine ⟨trivial, (callsIn_wide.2 HS.out).mono ?_⟩
      rintro e V3 ⟨v, rfl, hrow, hnil, hb3⟩
      have q3 : Below V.heap.size V V3 := ((Below.refl _ V).alloc (Nat.le_refl _) _).trans (hb3.mono (by simp))
      have hK3 := heap_below q3 hK
      have hB3 := hB2.trans ((hB.trans (q3.mono hB.size)).mono hw2s)
      have hVs := hB.size
      gi_wp2
      refine ⟨by simp, .inl ⟨_, _, rfl, run_takeDeferred hK3, ?_⟩⟩
      have hDV := (Array.getElem?_eq_some_iff.1 hK).1
      have hrow' : (V3.putObj D0 (.deferred none)).ownsRow (V.heap.size + 1) 3 1 v FL.length (FL.map (Value.int .i64)) := ownsRow_put (show V3.ownsRow (V.heap.size + 1) 3 1 v FL.length (FL.map (Value.int .i64)) by simpa using hrow) _ (by omega) (Nat.le_refl _)
      refine ⟨.tuple #[v, .int .i64 0], by simp [results, Tryz.f57, go_sem], v, rfl, ?_, hB3.trans (belowK_b (w := w) (Nat.le_refl _) V3 D0 _ _ (by omega) hK3 rfl rfl)⟩
      rw [HL2.out]
      exact Ints.of_own hrow'
    case stop =>
      rintro D0 cc pre V hD0 hpre h hK
      exact h.elim
  · have HL1 : Hid (LE = []) := by unfold Hid; rw [HLE.out, if_neg h0]
    have HOV1 : Hid (∀ AL cm, OV AL cm = #[.int .i64 0, .int .i64 0, .int .i64 0, .int .i64 0, .int .i64 0, .int .i64 0, .int .i64 0, .int .i64 0, .int .i64 0, .slice none 0 0, .slice none 0 0]) := fun AL cm => by rw [HOV.out, if_neg h0]
    have hne : (E != 0) = true := by simpa using h0
    clear HLE HSEQ HOV h0 HLN hmm HE HO
    go_enter Tryz.func57, Tryz.ntmps57
    go_wp2_with fail
    have hB1 : Below w.heap.size w ((w.alloc (.cells #[.int .i64 full, .int .i64 read, .int .i64 slip, .int .i64 skew, .int .i64 circ, .int .i64 glo, .int .i64 ghi, .int .i64 wrn, .int .i64 gain, .slice A ts.length c] 28)).alloc (.cells #[.func (.func g) #[] #[]] 94)) := by (repeat' (first | (with_reducible exact Below.refl _ _) | (with_reducible assumption) | (with_reducible refine Below.alloc ?_ ?_ _) | (with_reducible refine Below.drew ?_) | (with_reducible refine Below.setCell ?_ ?_ _) | go_size | (exact (by simp)) | omega))
    try generalize World.alloc (World.alloc w _) _ = w1 at *
    refine (HOP.out _ hB1).mono ?_
    rintro e w2 ⟨AL, cm, rfl, hal, hb2⟩
    rw [HOV1.out]
    have hB2 := hB1.trans (hb2.mono hB1.size)
    go_wp2_with fail
    go_returns
    exact ⟨.slice none 0 0, rfl, by rw [HL1.out]; exact .inl ⟨rfl, rfl⟩, hB2.alloc hB2.size _⟩
end Go.Proofs.YtkmacpkjobdffaaGreat
