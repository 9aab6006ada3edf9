/- Trials: the iterator over all truths. -/
import Derived.Test.YtkmacpkjobdffaaGreatTiF
import Derived.Test.YtkmacpkjobdffaaGreatFarG
namespace Go.Proofs.YtkmacpkjobdffaaGreat
open Go.RowKit Go.Shelf
attribute [local go_sem] Oper.semAt_some
namespace Ti
def alB (t : Tri) (k : Nat) (x : Gk) : Bool := decide (x ∈ puts t (tstAt t.ts k))
def alTo (t : Tri) (x : Gk) : Nat → Bool
  | 0 => true
  | k + 1 => alTo t x k && alB t k x
def trB (t : Tri) (x : GkS) : Bool := alTo t x.1 t.ts.length
def truthsL (t : Tri) : List GkS := (casesL t).filter (trB t)
theorem alTo_no {t : Tri} {x : Gk} {k : Nat} (h : alB t k x = false) : ∀ n, k < n → alTo t x n = false
  | n + 1, hk => by
    show (alTo t x n && alB t n x) = false
    by_cases e : k = n
    · subst e; rw [h, Bool.and_false]
    · rw [alTo_no h n (by omega), Bool.false_and]
end Ti
/-- A row of maps, one for each test, of all that it allows. -/
def Alw (w : World) (B : Nat) (AL : Option Addr) (t : Ti.Tri) : Prop :=
  0 < t.ts.length → ∃ b off, AL = some ⟨b, off, none⟩ ∧ b < B ∧ ∀ k, k < t.ts.length → ∃ bk, bk < B ∧ w.cell? ⟨b, off + k, none⟩ = some (.map (some bk)) ∧ SeenT w bk (Ti.puts t (Ti.tstAt t.ts k))
theorem SeenT.keep {w w' : World} {B b : Nat} {l : List Ti.Gk} (h : SeenT w b l) (hb : Below B w w') (hB : b < B) : SeenT w' b l := by
  obtain ⟨D, ⟨es, clock, h1, h2⟩, h3⟩ := h
  exact ⟨D, ⟨es, clock, (hb.block _ hB).trans h1, h2⟩, h3⟩
theorem Alw.keep {w w' : World} {B : Nat} {AL : Option Addr} {t : Ti.Tri} (h : Alw w B AL t) (hb : Below B w w') : Alw w' B AL t := fun hn => by
  obtain ⟨b, off, e, hB, hc⟩ := h hn
  refine ⟨b, off, e, hB, fun k hk => ?_⟩
  obtain ⟨bk, h1, h2, h3⟩ := hc k hk
  exact ⟨bk, h1, (hb.cell (p := ⟨b, _, none⟩) hB).trans h2, h3.keep hb h1⟩
theorem Alw.wider {w : World} {B B' : Nat} {AL : Option Addr} {t : Ti.Tri} (h : Alw w B AL t) (hB : B ≤ B') : Alw w B' AL t := fun hn => by
  obtain ⟨b, off, e, hb, hc⟩ := h hn
  refine ⟨b, off, e, by omega, fun k hk => ?_⟩
  obtain ⟨bk, h1, h2⟩ := hc k hk
  exact ⟨bk, by omega, h2⟩

set_option maxRecDepth 100000 in
set_option maxHeartbeats 8000000 in
theorem truthsT_far (t : Ti.Tri) (hg : 0 ≤ t.gain ∧ t.gain ≤ 50) (hk : 0 ≤ t.d.skew ∧ t.d.skew ≤ 20) (hl : t.ts.length ≤ 1000) (A : Option Addr) (c : Nat) (AL : Option Addr) (cm : Nat) (n₀ : Nat) (w : World) (hn0 : n₀ ≤ w.heap.size) :
    SeqFarG Tryz.prog (fun V => Alw V V.heap.size AL t) 55 #[.agg (fV t A c AL t.ts.length cm)] #[] encGk n₀ (fun ys => ys = Ti.truthsL t) (fun pre => pre <+: Ti.truthsL t) 5000 w := by
  intro l J Jx W hW hJ hJx hGJ hY h0
  have HSEQ : Hid (∀ w', SeqFar Tryz.prog 94 #[.agg (fV t A c AL t.ts.length cm)] #[] encGk n₀ (fun ys => ys = Ti.casesL t) (fun pre => pre <+: Ti.casesL t) 5000 w') := fun w' => casesT_far t hg hk A c AL _ cm n₀ w'
  have HAL : Hid (∀ pre V V2, J pre V → Below V.heap.size V V2 → Alw V2 V.heap.size AL t) := fun pre V V2 h hb => (hGJ pre V h).keep hb
  clear hGJ
  have HTR : Hid (∀ (pre : List Ti.GkS) (x : Ti.GkS), (pre ++ [x]).filter (Ti.trB t) = pre.filter (Ti.trB t) ++ (if Ti.alTo t x.1 t.ts.length = true then [x] else [])) := fun pre x => by
    rw [List.filter_append]
    congr 1
    rw [List.filter_cons]
    unfold Ti.trB
    simp
  have HTL : Hid (Ti.truthsL t = (Ti.casesL t).filter (Ti.trB t)) := rfl
  have HPR : Hid (∀ pre : List Ti.GkS, pre <+: Ti.casesL t → pre.filter (Ti.trB t) <+: Ti.truthsL t) := fun pre h => h.filter _
  have HA0 : Hid (∀ x, Ti.alTo t x 0 = true) := fun x => rfl
  have HAS : Hid (∀ x k, Ti.alTo t x (k + 1) = (Ti.alTo t x k && decide (x ∈ Ti.puts t (Ti.tstAt t.ts k)))) := fun x k => rfl
  have HAN : Hid (∀ x k, k < t.ts.length → decide (x ∈ Ti.puts t (Ti.tstAt t.ts k)) = false → Ti.alTo t x t.ts.length = false) := fun x k h1 h2 => Ti.alTo_no h2 _ h1
  unfold Alw at HAL
  have H0 : Hid (J [] W) := h0
  have hWn : Below n₀ w W := hW.mono hn0
  clear h0 hg hk
  generalize Ti.alTo t = AT at *
  generalize hfl : Ti.trB t = tr at *
  generalize Ti.casesL t = CL at *
  generalize Ti.truthsL t = TL at *
  generalize hPU : (fun k => Ti.puts t (Ti.tstAt t.ts k)) = PU at *
  have hPU' : ∀ k, Ti.puts t (Ti.tstAt t.ts k) = PU k := fun k => by rw [← hPU]
  simp only [hPU'] at HAL HAS HAN
  clear hfl hPU hPU'
  unfold fV at *
  obtain ⟨d, gain, ts⟩ := t
  obtain ⟨full, read, slip, skew, circ, glo, ghi, wrn, dws⟩ := d
  dsimp only at *
  show Calls Tryz.prog _ #[.agg #[.int .i64 full, .int .i64 read, .int .i64 slip, .int .i64 skew, .int .i64 circ, .int .i64 glo, .int .i64 ghi, .int .i64 wrn, .int .i64 gain, .slice A ts.length c, .slice AL ts.length cm], .func (.yield l) #[] #[]] W _
  refine (callsIn_wide (n := 8)).1 ?_
  refine callsIn_of_wp_marks Tryz.func55 rfl trivial ?_ rfl
  simp only [Tryz.ntmps55, List.size_toArray, List.length_cons, List.length_nil, Nat.reduceAdd, Nat.reduceSub, Array.replicate_succ, Array.replicate_zero, List.push_toArray, List.append_toArray, List.nil_append, List.cons_append]
  gi_wp2
  have bD0 := (BoxS.new W 84 #[.int .i64 full, .int .i64 read, .int .i64 slip, .int .i64 skew, .int .i64 circ, .int .i64 glo, .int .i64 ghi, .int .i64 wrn, .int .i64 gain, .slice A ts.length c, .slice AL ts.length cm]).alloc (.cells #[.func (.yield l) #[] #[]] 127)
  have bY0 := Boxed.new (W.alloc (.cells #[.int .i64 full, .int .i64 read, .int .i64 slip, .int .i64 skew, .int .i64 circ, .int .i64 glo, .int .i64 ghi, .int .i64 wrn, .int .i64 gain, .slice A ts.length c, .slice AL ts.length cm] 84)) 127 (.func (.yield l) #[] #[])
  rw [World.size_alloc] at bY0
  have J0 : J [] ((W.alloc (.cells #[.int .i64 full, .int .i64 read, .int .i64 slip, .int .i64 skew, .int .i64 circ, .int .i64 glo, .int .i64 ghi, .int .i64 wrn, .int .i64 gain, .slice A ts.length c, .slice AL ts.length cm] 84)).alloc (.cells #[.func (.yield l) #[] #[]] 127)) := hJ.alloc _ (hJ.alloc _ H0.out)
  have z0 : ((W.alloc (.cells #[.int .i64 full, .int .i64 read, .int .i64 slip, .int .i64 skew, .int .i64 circ, .int .i64 glo, .int .i64 ghi, .int .i64 wrn, .int .i64 gain, .slice A ts.length c, .slice AL ts.length cm] 84)).alloc (.cells #[.func (.yield l) #[] #[]] 127)).heap.size = W.heap.size + 2 := by simp
  have B0 : Below n₀ w ((W.alloc (.cells #[.int .i64 full, .int .i64 read, .int .i64 slip, .int .i64 skew, .int .i64 circ, .int .i64 glo, .int .i64 ghi, .int .i64 wrn, .int .i64 gain, .slice A ts.length c, .slice AL ts.length cm] 84)).alloc (.cells #[.func (.yield l) #[] #[]] 127)) := (hWn.alloc (by have := hWn.size; omega) _).alloc (by have := hWn.size; simp; omega) _
  have hWs := hWn.size
  clear H0 hW hWn
  generalize World.alloc (World.alloc W _) _ = W0 at *
  refine (wpIn_wide (n := 8)).2 (wp_scope_straight ((wpIn_wide (n := 8)).1 ?_))
  refine wpIn_seq ?_
  refine wpIn_label ?_
  have k0 := bD0.cell 0 rfl
  have k1 := bD0.cell 1 rfl
  have k2 := bD0.cell 2 rfl
  have k3 := bD0.cell 3 rfl
  have k4 := bD0.cell 4 rfl
  have k5 := bD0.cell 5 rfl
  have k6 := bD0.cell 6 rfl
  have k7 := bD0.cell 7 rfl
  have k8 := bD0.cell 8 rfl
  have k9 := bD0.cell 9 rfl
  have k10 := bD0.cell 10 rfl
  gi_wp2
  clear k0 k1 k2 k3 k4 k5 k6 k7 k8 k9 k10
  refine wpIn_far (n₀ := n₀) (gf := 94) (pb := #[.agg #[.int .i64 full, .int .i64 read, .int .i64 slip, .int .i64 skew, .int .i64 circ, .int .i64 glo, .int .i64 ghi, .int .i64 wrn, .int .i64 gain, .slice A ts.length c, .slice AL ts.length cm]]) (lb := #[]) rfl (enters_of Tryz.func94 (by kernel_rfl) rfl)
    (HSEQ.out W0) (Below.refl _ _) (by omega) (fun _ => rfl)
    (fun pre V => ((Hid (J (pre.filter tr) V) ∧ BoxS V W.heap.size 84 #[.int .i64 full, .int .i64 read, .int .i64 slip, .int .i64 skew, .int .i64 circ, .int .i64 glo, .int .i64 ghi, .int .i64 wrn, .int .i64 gain, .slice A ts.length c, .slice AL ts.length cm]) ∧ Boxed V (W.heap.size + 1) 127 (.func (.yield l) #[] #[])) ∧ Below n₀ w V)
    (fun cc pre V => cc = .ret ∧ Hid (Jx (pre.filter tr) V))
    (OwnFrom.and (OwnFrom.and (OwnFrom.and (ownFrom_map (ownFrom_le hJ (by omega)) _) (Own.from (boxS_own _ _ (fun _ => _)) _)) (Own.from (boxed_own _ _ (fun _ => _)) _)) (ownFrom_below hn0 (by omega)))
    (fun cc => OwnFrom.and (ownFrom_pure _ _) (ownFrom_map (ownFrom_le hJx (by omega)) _))
    ⟨⟨⟨J0, bD0⟩, bY0⟩, B0⟩
    (fun x a' V => ∃ Bx, W.heap.size + 1 < Bx ∧ BoxS V Bx 93 #[.int .i64 x.1.1, .int .i64 x.1.2] ∧ a' = { tmps := #[.agg #[.int .i64 full, .int .i64 read, .int .i64 slip, .int .i64 skew, .int .i64 circ, .int .i64 glo, .int .i64 ghi, .int .i64 wrn, .int .i64 gain, .slice A ts.length c, .slice AL ts.length cm], .func (.yield l) #[] #[], .pointer (some ⟨W.heap.size, 0, none⟩), .pointer (some ⟨W.heap.size + 1, 0, none⟩), .pointer (some ⟨Bx, 0, none⟩), undef, undef, .agg #[.int .i64 full, .int .i64 read, .int .i64 slip, .int .i64 skew, .int .i64 circ, .int .i64 glo, .int .i64 ghi, .int .i64 wrn, .int .i64 gain, .slice A ts.length c, .slice AL ts.length cm], .func (.func 94) #[.agg #[.int .i64 full, .int .i64 read, .int .i64 slip, .int .i64 skew, .int .i64 circ, .int .i64 glo, .int .i64 ghi, .int .i64 wrn, .int .i64 gain, .slice A ts.length c, .slice AL ts.length cm]] #[], .agg #[.int .i64 x.1.1, .int .i64 x.1.2], undef, undef, undef, undef, undef, undef, undef, undef, undef, undef, undef, undef, undef, undef, undef, undef], defers := [] })
    (fun x a' _ X Y row hs hg hr => by obtain ⟨Bx, e1, e2, e3⟩ := hs; exact ⟨Bx, e1, boxS_own Bx 93 (fun (_ : Unit) => #[.int .i64 x.1.1, .int .i64 x.1.2]) () X Y row e2 hg (fun r e => (hr r e).2), e3⟩)
    ?assign ?body ?done ?stop
  case assign =>
    rintro l2 pre x V K ⟨⟨⟨hJ1, bD⟩, bY⟩, hB⟩ hK
    unfold encGk
    gi_wp2
    have hJ2 : J (pre.filter tr) (V.alloc (.cells #[.int .i64 x.1.1, .int .i64 x.1.2] 93)) := hJ.alloc _ hJ1.out
    exact hK _ _ (Apart.alloc _ _) ⟨⟨⟨hJ2, bD.alloc _⟩, bY.alloc _⟩, hB.alloc (by have := hB.size; omega) _⟩ ⟨V.heap.size, bY.lt, BoxS.new V _ _, rfl⟩
  case done =>
    rintro D zs V hD rfl ⟨⟨⟨hJ1, bD⟩, bY⟩, hB⟩ hK
    gi_wp2
    refine ⟨by simp, .inl ⟨_, _, rfl, run_takeDeferred hK, ?_⟩⟩
    exact ⟨_, results_none rfl _ _ _, ⟨_, rfl⟩, .inl ⟨_, rfl, hJ.putObj _ (by rw [HTL.out]; exact hJ1.out) (by omega) hK rfl⟩⟩
  case stop =>
    rintro D cc pre V hD hpre ⟨rfl, hx⟩ hK
    gi_wp2
    refine ⟨by simp, .inl ⟨_, _, rfl, run_takeDeferred hK, ?_⟩⟩
    exact ⟨_, results_none rfl _ _ _, ⟨_, rfl⟩, .inr ⟨_, HPR.out _ hpre, hJx.putObj _ hx.out (by omega) hK rfl⟩⟩
  case body =>
    rintro l2 pre x a' V ⟨⟨⟨hJ1, bD⟩, bY⟩, hB⟩ ⟨Bx, hBx, bX, rfl⟩ hlt
    have HT := HTR.out pre x
    have hBs := hB.size
    have d10 := bD.cell 10 rfl
    gi_wp2
    clear d10
    have HAN1 := Lib.hid (fun k h1 h2 => HAN.out x.1 k h1 h2)
    have HA01 := Lib.hid (HA0.out x.1)
    have HAS1 := Lib.hid (HAS.out x.1)
    have hxs := x.2
    gi_loopw [6, 13] (fun x6 x13 wr => ∃ k : Nat, (k : Int) ≤ ts.length ∧ x13 = .int .i64 (k : Int) ∧ Hid (AT x.1 k = true) ∧ Below V.heap.size V wr) (fun _ x13 _ => (ts.length - intOf x13).toNat)
    case atStart => exact ⟨0, by omega, rfl, HA01, Below.refl _ _⟩
    case round =>
      obtain ⟨k, hk, rfl, hat, hbb⟩ := hrel
      have hk0 := Int.natCast_nonneg k
      have hBr := hB.trans (hbb.mono (by omega))
      have hbs := hbb.size
      have bX2 := bX.below hbb
      have bY2 := boxed_below bY hbb
      have bD2 := bD.below hbb
      have x0 := bX2.cell 0 rfl
      have x1 := bX2.cell 1 rfl
      have y0 := bY2.cell
      by_cases hlt1 : (k : Int) < ts.length
      · have hkn : k < ts.length := by omega
        obtain ⟨b, off, rfl, hb, hc⟩ := HAL.out _ V wr hJ1.out hbb (by omega)
        obtain ⟨bk, hbk, z0, hS⟩ := hc k hkn
        have hlook := hS.look (x := x.1.1) (y := x.1.2) hxs
        have HAN2 := Lib.hid (HAN1.out k hkn)
        have HAS2 := Lib.hid (HAS1.out k)
        have hbr : b < wr.heap.size := by omega
        have hw1 : IntKind.i64.wrap ((k : Int) + 1) = (k : Int) + 1 := IntWalk.i64_in _ (by omega)
        have hpx : ((x.1.1, x.1.2) : Ti.Gk) = x.1 := rfl
        rw [hpx] at hlook
        clear hc hS hpx
        cases hin : decide (x.1 ∈ PU k)
        · rw [hin] at hlook HAN2
          have HX := HAN2.out rfl
          rw [if_neg (by rw [HX]; simp), List.append_nil] at HT
          have HT2 := Lib.hid HT
          have J2 : J (pre.filter tr) wr := ownFrom_at hJ hJ1.out hbb
          clear HT hin HAN2 HAS2 HX
          gi_wp2
          exact ⟨Apart.of_below hbb, ⟨⟨by unfold Hid; rw [HT2.out]; exact J2, bD2⟩, bY2⟩, hBr⟩
        · rw [hin] at hlook HAS2
          have HA2 : Hid (AT x.1 (k + 1) = true) := by unfold Hid; rw [HAS2.out, hat.out]; rfl
          clear hin HAN2 HAS2 HT
          gi_wp2
          go_roundw
          case rel => exact ⟨k + 1, by omega, by go_num, HA2, hbb⟩
          case measure => simp [intOf]; omega
      · have ek : k = ts.length := by omega
        rw [if_pos (by rw [← ek]; exact hat.out)] at HT
        have HT2 := Lib.hid HT
        have J2 : J (pre.filter tr) wr := ownFrom_at hJ hJ1.out hbb
        obtain ⟨fn, tmps, assign, body, hy, hR⟩ := hY 7 _ x wr J2 (Nat.lt_of_le_of_lt (List.length_filter_le _ _) hlt)
        unfold encGk at hy
        have HR := Lib.hid hR
        clear hR HT
        gi_wp2
        refine RoundIn.mono (show RoundIn (Fence.wide.inRound l2) 7 _ l fn tmps assign body wr _ from HR.out) ?_
        rintro e V3 (⟨rfl, hJ3, hk3⟩ | ⟨rfl, hJx3, hk3⟩)
        · gi_wp2
          exact ⟨(Apart.of_below hbb).trans (hk3.wider (Nat.le_refl _) (by omega)), ⟨⟨by unfold Hid; rw [HT2.out]; exact hJ3, hk3.boxS bD2 (.inr (Nat.le_refl _))⟩, hk3.boxed bY2 (.inr (by omega))⟩, hBr.trans (hk3.below (by omega))⟩
        · gi_wp2
          exact ⟨(Apart.of_below hbb).trans (hk3.wider (Nat.le_refl _) (by omega)), rfl, by unfold Hid; rw [HT2.out]; exact hJx3⟩
end Go.Proofs.YtkmacpkjobdffaaGreat
