/- Trials: bounds of what is asked of all truths. -/
import Derived.Test.YtkmacpkjobdffaaGreatTiJ
namespace Go.Proofs.YtkmacpkjobdffaaGreat
open Go.RowKit Go.Shelf Go.Maps
attribute [local go_sem] Oper.semAt_some
theorem openT_any (t : Ti.Tri) (valid : Bool) (A : Option Addr) (c : Nat) (w : World) (hl : t.ts.length ≤ 1000000000) (hg : Tsts w w.heap.size A t.ts) :
    Calls Tryz.prog 54 #[.agg (tiV t A c), .bool valid] w (OpPost (Ti.opE t valid) t A c w) := by
  by_cases h0 : Ti.chkV t = 0
  · cases valid
    · exact openT_no t false A c w hl hg (.inr rfl)
    · exact openT_ok t A c w hg h0 hl
  · exact openT_no t valid A c w hl hg (.inl h0)
namespace Ti
def lowL (f : Gk → Int) (L : List GkS) : Int := L.foldl (fun m x => min m (f x.1)) 9223372036854775807
def highL (f : Gk → Int) (L : List GkS) : Int := L.foldl (fun m x => max m (f x.1)) (-9223372036854775808)
theorem lowL_snoc (f : Gk → Int) (L : List GkS) (x : GkS) : lowL f (L ++ [x]) = min (lowL f L) (f x.1) := by unfold lowL; rw [List.foldl_append]; rfl
theorem highL_snoc (f : Gk → Int) (L : List GkS) (x : GkS) : highL f (L ++ [x]) = max (highL f L) (f x.1) := by unfold highL; rw [List.foldl_append]; rfl
end Ti
set_option maxRecDepth 100000 in
set_option maxHeartbeats 8000000 in
theorem fbounds_any (t : Ti.Tri) (hga : 0 ≤ t.gain ∧ t.gain ≤ 50) (hsk : 0 ≤ t.d.skew ∧ t.d.skew ≤ 20) (hn6 : t.ts.length ≤ 6) (g : FuncId) (cp : Value) (f : Ti.Gk → Int) (HE : ∀ args W, (callFunc g args).run Tryz.prog W = .ok (.enter g args) W)
    (A : Option Addr) (c : Nat) (AL : Option Addr) (cm : Nat) (w : World) (HO : Hid (∀ (x : Ti.GkS) W, Below w.heap.size w W → Calls Tryz.prog g #[.agg #[.int .i64 x.1.1, .int .i64 x.1.2], cp] W fun e w' => e = .returned (.int .i64 (f x.1)) ∧ Below W.heap.size W w')) (hal : Alw w w.heap.size AL t) :
    Calls Tryz.prog 97 #[.agg (fV t A c AL t.ts.length cm), .func (.func g) #[] #[cp]] w fun e w' => e = .returned (.agg #[.int .i64 (Ti.lowL f (Ti.truthsL t)), .int .i64 (Ti.highL f (Ti.truthsL t))]) ∧ Below w.heap.size w w' := by
  have HSEQ : Hid (∀ w', w.heap.size ≤ w'.heap.size → SeqFarG Tryz.prog (fun V => Alw V V.heap.size AL t) 55 #[.agg (fV t A c AL t.ts.length cm)] #[] encGk w.heap.size (fun ys => ys = Ti.truthsL t) (fun pre => pre <+: Ti.truthsL t) 5000 w') := fun w' h => truthsT_far t hga hsk (by omega) A c AL cm w.heap.size w' h
  obtain ⟨AW, hAW⟩ : ∃ AW : World → Prop, AW = fun V => Alw V V.heap.size AL t := ⟨_, rfl⟩
  have HAW : ∀ V, Alw V V.heap.size AL t = AW V := fun V => by rw [hAW]
  have HAL : Hid (∀ V, Below w.heap.size w V → AW V) := fun V hb => by rw [← HAW]; exact (hal.keep hb).wider hb.size
  simp only [HAW] at HSEQ
  clear hal HAW hAW
  generalize Ti.truthsL t = TL at *
  have HL0 : Hid (Ti.lowL f [] = 9223372036854775807) := rfl
  have HH0 : Hid (Ti.highL f [] = -9223372036854775808) := rfl
  have HLS : Hid (∀ L x, Ti.lowL f (L ++ [x]) = min (Ti.lowL f L) (f x.1)) := Ti.lowL_snoc f
  have HHS : Hid (∀ L x, Ti.highL f (L ++ [x]) = max (Ti.highL f L) (f x.1)) := Ti.highL_snoc f
  generalize Ti.lowL f = LO at *
  generalize Ti.highL f = HI at *
  unfold fV at *
  obtain ⟨d, gain, ts⟩ := t
  obtain ⟨full, read, slip, skew, circ, glo, ghi, wrn, dws⟩ := d
  dsimp only at *
  refine (callsIn_wide (n := 8)).1 ?_
  refine callsIn_of_wp_marks Tryz.func97 rfl trivial ?_ rfl
  simp only [Tryz.ntmps97, List.size_toArray, List.length_cons, List.length_nil, Nat.reduceAdd, Nat.reduceSub, Array.replicate_succ, Array.replicate_zero, List.push_toArray, List.append_toArray, List.nil_append, List.cons_append]
  gi_wp2
  have bF := (((BoxS.new (w.alloc (.cells #[.int .i64 full, .int .i64 read, .int .i64 slip, .int .i64 skew, .int .i64 circ, .int .i64 glo, .int .i64 ghi, .int .i64 wrn, .int .i64 gain, .slice A ts.length c, .slice AL ts.length cm] 84)) 94 #[.func (.func g) #[] #[cp]]).alloc (.cells #[.int .i64 0, .int .i64 0] 23)).alloc (.cells #[.int .i64 9223372036854775807, .int .i64 (-9223372036854775808)] 23))
  have bR := (BoxS.new ((w.alloc (.cells #[.int .i64 full, .int .i64 read, .int .i64 slip, .int .i64 skew, .int .i64 circ, .int .i64 glo, .int .i64 ghi, .int .i64 wrn, .int .i64 gain, .slice A ts.length c, .slice AL ts.length cm] 84)).alloc (.cells #[.func (.func g) #[] #[cp]] 94)) 23 #[.int .i64 0, .int .i64 0]).alloc (.cells #[.int .i64 9223372036854775807, .int .i64 (-9223372036854775808)] 23)
  have bS := BoxS.new (((w.alloc (.cells #[.int .i64 full, .int .i64 read, .int .i64 slip, .int .i64 skew, .int .i64 circ, .int .i64 glo, .int .i64 ghi, .int .i64 wrn, .int .i64 gain, .slice A ts.length c, .slice AL ts.length cm] 84)).alloc (.cells #[.func (.func g) #[] #[cp]] 94)).alloc (.cells #[.int .i64 0, .int .i64 0] 23)) 23 #[.int .i64 9223372036854775807, .int .i64 (-9223372036854775808)]
  have hB1 : Below w.heap.size w ((((w.alloc (.cells #[.int .i64 full, .int .i64 read, .int .i64 slip, .int .i64 skew, .int .i64 circ, .int .i64 glo, .int .i64 ghi, .int .i64 wrn, .int .i64 gain, .slice A ts.length c, .slice AL ts.length cm] 84)).alloc (.cells #[.func (.func g) #[] #[cp]] 94)).alloc (.cells #[.int .i64 0, .int .i64 0] 23)).alloc (.cells #[.int .i64 9223372036854775807, .int .i64 (-9223372036854775808)] 23)) := by (repeat' (first | (with_reducible exact Below.refl _ _) | (with_reducible assumption) | (with_reducible refine Below.alloc ?_ ?_ _) | (with_reducible refine Below.drew ?_) | (with_reducible refine Below.setCell ?_ ?_ _) | go_size | (exact (by simp)) | omega))
  have hz1 : ((((w.alloc (.cells #[.int .i64 full, .int .i64 read, .int .i64 slip, .int .i64 skew, .int .i64 circ, .int .i64 glo, .int .i64 ghi, .int .i64 wrn, .int .i64 gain, .slice A ts.length c, .slice AL ts.length cm] 84)).alloc (.cells #[.func (.func g) #[] #[cp]] 94)).alloc (.cells #[.int .i64 0, .int .i64 0] 23)).alloc (.cells #[.int .i64 9223372036854775807, .int .i64 (-9223372036854775808)] 23)).heap.size = w.heap.size + 4 := by simp
  simp only [World.size_alloc] at bF bR bS
  generalize World.alloc (World.alloc (World.alloc (World.alloc w _) _) _) _ = w1 at *
  refine wpIn_farG (n₀ := w.heap.size) (gf := 55) (pb := #[.agg #[.int .i64 full, .int .i64 read, .int .i64 slip, .int .i64 skew, .int .i64 circ, .int .i64 glo, .int .i64 ghi, .int .i64 wrn, .int .i64 gain, .slice A ts.length c, .slice AL ts.length cm]]) (lb := #[]) rfl (enters_of Tryz.func55 (by kernel_rfl) rfl)
    (HSEQ.out w1 hB1.size) (Below.refl _ _) (by omega) (fun _ => rfl)
    (fun pre V => ((BoxS V (w.heap.size + 1) 94 #[.func (.func g) #[] #[cp]] ∧ BoxS V (w.heap.size + 1 + 1) 23 #[.int .i64 0, .int .i64 0]) ∧ BoxS V (w.heap.size + 1 + 1 + 1) 23 #[.int .i64 (LO pre), .int .i64 (HI pre)]) ∧ Below w.heap.size w V)
    (fun _ _ _ => False)
    (fun pre V h => HAL.out V h.2)
    (OwnFrom.and (OwnFrom.and (OwnFrom.and (Own.from (boxS_own _ _ (fun _ => _)) _) (Own.from (boxS_own _ _ (fun _ => _)) _)) (Own.from (boxS_own _ _ (fun (pre : List Ti.GkS) => #[.int .i64 (LO pre), .int .i64 (HI pre)])) _)) (ownFrom_below (Nat.le_refl _) (by omega)))
    (fun _ _ _ _ _ hs _ _ => hs)
    ⟨⟨⟨bF, bR⟩, by rw [HL0.out, HH0.out]; exact bS⟩, hB1⟩
    (fun x a' V => ∃ Bx, w.heap.size + 3 < Bx ∧ BoxS V Bx 93 #[.int .i64 x.1.1, .int .i64 x.1.2] ∧ a' = { tmps := #[.agg #[.int .i64 full, .int .i64 read, .int .i64 slip, .int .i64 skew, .int .i64 circ, .int .i64 glo, .int .i64 ghi, .int .i64 wrn, .int .i64 gain, .slice A ts.length c, .slice AL ts.length cm], .func (.func g) #[] #[cp], .pointer (some ⟨w.heap.size, 0, none⟩), .pointer (some ⟨w.heap.size + 1, 0, none⟩), .pointer (some ⟨w.heap.size + 1 + 1, 0, none⟩), .pointer (some ⟨w.heap.size + 1 + 1 + 1, 0, none⟩), .pointer (some ⟨Bx, 0, none⟩), undef, .agg #[.int .i64 9223372036854775807, .int .i64 (-9223372036854775808)], .agg #[.int .i64 full, .int .i64 read, .int .i64 slip, .int .i64 skew, .int .i64 circ, .int .i64 glo, .int .i64 ghi, .int .i64 wrn, .int .i64 gain, .slice A ts.length c, .slice AL ts.length cm], .func (.func 55) #[.agg #[.int .i64 full, .int .i64 read, .int .i64 slip, .int .i64 skew, .int .i64 circ, .int .i64 glo, .int .i64 ghi, .int .i64 wrn, .int .i64 gain, .slice A ts.length c, .slice AL ts.length cm]] #[], .agg #[.int .i64 x.1.1, .int .i64 x.1.2], undef, undef, undef, undef, undef, undef, undef, undef, undef, undef, undef, undef, undef, undef], defers := [] })
    (fun x a' _ X Y row hs hg hr => by obtain ⟨Bx, e1, e2, e3⟩ := hs; exact ⟨Bx, e1, boxS_own Bx 93 (fun (_ : Unit) => #[.int .i64 x.1.1, .int .i64 x.1.2]) () X Y row e2 hg (fun r e => (hr r e).2), e3⟩)
    ?assign ?body ?done ?stop
  case assign =>
    rintro l2 pre x V K ⟨⟨⟨bF, bR⟩, bS⟩, hB⟩ hK
    unfold encGk
    gi_wp2
    exact hK _ _ (Apart.alloc _ _) ⟨⟨⟨bF.alloc _, bR.alloc _⟩, bS.alloc _⟩, hB.alloc hB.size _⟩ ⟨V.heap.size, by have := bS.lt; omega, BoxS.new V _ _, rfl⟩
  case body =>
    rintro l2 pre x a' V ⟨⟨⟨bF, bR⟩, bS⟩, hB⟩ ⟨Bx, hBx, bX, rfl⟩ hlt
    have HO1 := Lib.hid (fun V' (h : Below V.heap.size V V') => HO.out x V' (hB.trans (h.mono hB.size)))
    have f0 := bF.cell 0 rfl
    have x0 := bX.cell 0 rfl
    have x1 := bX.cell 1 rfl
    have HL := Lib.hid (HLS.out pre x)
    have HH := Lib.hid (HHS.out pre x)
    generalize LO pre = lo at *
    generalize HI pre = hi at *
    generalize f x.1 = fx at *
    gi_wp2
    refine ⟨trivial, (CallsIn.inRound l2 (callsIn_wide.2 (HO1.out _ (Below.refl _ _)))).mono ?_⟩
    rintro e V2 ⟨rfl, hb2⟩
    have bF2 := bF.below hb2
    have bR2 := bR.below hb2
    have bS2 := bS.below hb2
    have hB2 := hB.trans (hb2.mono hB.size)
    have s0 := bS2.cell 0 rfl
    have s1 := bS2.cell 1 rfl
    have g0 := bS2.frozen 0
    have g1 := bS2.frozen 1
    clear f0 x0 x1
    gi_wp2
    have bS3 : BoxS ((V2.setCell ⟨w.heap.size + 1 + 1 + 1, 0, none⟩ (.int .i64 (min lo fx))).setCell ⟨w.heap.size + 1 + 1 + 1, 1, none⟩ (.int .i64 (max hi fx))) (w.heap.size + 1 + 1 + 1) 23 #[.int .i64 (min lo fx), .int .i64 (max hi fx)] := (bS2.put9 0 _).put9 1 _
    have bF3 := (bF2.away (B' := w.heap.size + 1 + 1 + 1) (by omega) 0 (.int .i64 (min lo fx))).away (B' := w.heap.size + 1 + 1 + 1) (by omega) 1 (.int .i64 (max hi fx))
    have bR3 := (bR2.away (B' := w.heap.size + 1 + 1 + 1) (by omega) 0 (.int .i64 (min lo fx))).away (B' := w.heap.size + 1 + 1 + 1) (by omega) 1 (.int .i64 (max hi fx))
    have hA : Apart w.heap.size w1.heap.size V ((V2.setCell ⟨w.heap.size + 1 + 1 + 1, 0, none⟩ (.int .i64 (min lo fx))).setCell ⟨w.heap.size + 1 + 1 + 1, 1, none⟩ (.int .i64 (max hi fx))) := (Apart.of_below hb2).trans ((Apart.setCell _ ⟨w.heap.size + 1 + 1 + 1, 0, none⟩ (by simp; omega) (by simp; omega) _).trans (Apart.setCell _ ⟨w.heap.size + 1 + 1 + 1, 1, none⟩ (by simp; omega) (by simp; omega) _))
    exact ⟨hA, ⟨⟨bF3, bR3⟩, by rw [HL.out, HH.out]; exact bS3⟩, hB.trans (hA.below hB.size)⟩
  case done =>
    rintro D zs V hD rfl ⟨⟨⟨bF, bR⟩, bS⟩, hB⟩ hK
    have r0 := bR.cell 0 rfl
    have r1 := bR.cell 1 rfl
    have g0 := bR.frozen 0
    have g1 := bR.frozen 1
    obtain ⟨lo, hlo⟩ : ∃ lo, lo = LO zs := ⟨_, rfl⟩
    obtain ⟨hi, hhi⟩ : ∃ hi, hi = HI zs := ⟨_, rfl⟩
    rw [← hlo, ← hhi] at bS
    replace hlo := Lib.hid hlo
    replace hhi := Lib.hid hhi
    have s0 := bS.cell 0 rfl
    have s1 := bS.cell 1 rfl
    gi_wp2
    have bR4 : BoxS ((V.setCell ⟨w.heap.size + 1 + 1, 0, none⟩ (.int .i64 lo)).setCell ⟨w.heap.size + 1 + 1, 1, none⟩ (.int .i64 hi)) (w.heap.size + 1 + 1) 23 #[.int .i64 lo, .int .i64 hi] := (bR.put9 0 _).put9 1 _
    have hA : Apart w.heap.size w1.heap.size V ((V.setCell ⟨w.heap.size + 1 + 1, 0, none⟩ (.int .i64 lo)).setCell ⟨w.heap.size + 1 + 1, 1, none⟩ (.int .i64 hi)) := (Apart.setCell _ ⟨w.heap.size + 1 + 1, 0, none⟩ (by simp; omega) (by simp; omega) _).trans (Apart.setCell _ ⟨w.heap.size + 1 + 1, 1, none⟩ (by simp; omega) (by simp; omega) _)
    have hK4 := hA.obj hK (.inr hD)
    have hB4 := hB.trans (hA.below hB.size)
    clear s0 s1 r0 r1 g0 g1 hK hA bR bS bF
    generalize World.setCell (World.setCell V _ _) _ _ = V4 at *
    refine ⟨by simp, .inl ⟨_, _, rfl, run_takeDeferred hK4, ?_⟩⟩
    have bR5 : BoxS (V4.putObj D (.deferred none)) (w.heap.size + 1 + 1) 23 #[.int .i64 lo, .int .i64 hi] := (World.putObj_heap_other (by omega)).trans bR4
    have r0 := bR5.cell 0 rfl
    have r1 := bR5.cell 1 rfl
    exact ⟨.agg #[.int .i64 lo, .int .i64 hi], by simp [results, Tryz.f97, go_sem, r0, r1], by rw [hlo.out, hhi.out], hB4.trans (belowK_b (w := w) (Nat.le_refl _) V4 D _ _ (by omega) hK4 rfl rfl)⟩
  case stop =>
    rintro D0 cc pre V hD0 hpre h hK
    exact h.elim
end Go.Proofs.YtkmacpkjobdffaaGreat
