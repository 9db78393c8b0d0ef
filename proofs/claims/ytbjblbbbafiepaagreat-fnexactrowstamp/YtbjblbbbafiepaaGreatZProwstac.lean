/- Columns, shares and the answers of chapter 3, as plain definitions. No Go in sight. -/
import Derived.Test.YtbjblbbbafiepaaGreatZProwstab
import Derived.Test.YtbjblbbbafiepaaGreatZProwstaa
import Derived.Deep.RegionLaw
import Derived.Test.YtbjblbbbafiepaaGreatProg
import Derived.WalkLawsBesides
import Derived.Lib.QuietBelow
set_option linter.unusedVariables false
set_option linter.unusedSimpArgs false
namespace Go.Proofs.YtbjblbbbafiepaaGreat
open F256
def Shp3 (d s:Int):Prop:=1 ≤ d ∧ d ≤ 4 ∧ 0 ≤ s ∧ s ≤ 2
def HasP (n:Nat) (g:Nat → Int) (x:Int):Prop:=∃ i,i < n ∧ g i = x
end Go.Proofs.YtbjblbbbafiepaaGreat
namespace Go.Proofs.YtbjblbbbafiepaaGreat
open Go.RowKit F256
structure BldO (wr:World) (lo hi:Nat) (v:Value) (k:Nat) (n:Nat → Nat) (f:Mat) (e:Nat → Value):Prop where
  row:wr.ownsRow lo 49 1 v k (valsOf k e)
  low:∀ b,v.ownBlock = some b → b < hi
  each:∀ i,i < k → Own wr lo hi (e i) (n i) (f i)
  apart:∀ i j,i < k → j < k → i ≠ j → ∀ b,(e i).ownBlock = some b → (e j).ownBlock ≠ some b
  le:lo ≤ hi
  le2:hi ≤ wr.heap.size
end Go.Proofs.YtbjblbbbafiepaaGreat
namespace Go.Proofs.YtbjblbbbafiepaaGreat
open Go.RowKit F256
theorem l3Shape_any (d s:Int) (w:World) :
    Calls Tryz.prog 86 #[.int .i64 d,.int .i64 s] w (BoolP (Shp3 d s) w):=by
  by_cases h1:1 ≤ d ∧ d ≤ 4
  · by_cases h2:0 ≤ s ∧ s ≤ 2
    · go_enter Tryz.func86,Tryz.ntmps86
      go_wp2_with fail
      refine (l1In_yes d 1 4 h1.1 h1.2 _).mono ?_;rintro e w1 ⟨rfl,rfl⟩
      go_wp2_with fail
      refine (l1In_yes s 0 2 h2.1 h2.2 _).mono ?_;rintro e w1 ⟨rfl,rfl⟩;go_wp2;go_ret;exact boolYes rfl ⟨h1.1,h1.2,h2.1,h2.2⟩ (Below.refl _ _)
    · go_enter Tryz.func86,Tryz.ntmps86
      go_wp2_with fail
      refine (l1In_yes d 1 4 h1.1 h1.2 _).mono ?_;rintro e w1 ⟨rfl,rfl⟩
      go_wp2_with fail
      refine (l1In_no s 0 2 (by omega) _).mono ?_;rintro e w1 ⟨rfl,rfl⟩;go_wp2;go_ret;exact boolNo rfl (fun h => h2 ⟨h.2.2.1,h.2.2.2⟩) (Below.refl _ _)
  · go_enter Tryz.func86,Tryz.ntmps86
    go_wp2_with fail
    refine (l1In_no d 1 4 (by omega) _).mono ?_;rintro e w1 ⟨rfl,rfl⟩;go_wp2;go_ret;exact boolNo rfl (fun h => h1 ⟨h.1,h.2.1⟩) (Below.refl _ _)
end Go.Proofs.YtbjblbbbafiepaaGreat
namespace Go.Proofs.YtbjblbbbafiepaaGreat
open Go.RowKit F256
set_option maxHeartbeats 2000000 in
theorem toShape_any (s:Nat → Int) (w:World) :
    Calls Tryz.prog 29 #[shapeV s] w fun e w' => e = .returned (shapeV s) ∧ Below w.heap.size w w':=by
  unfold shapeV;obtain ⟨a0,h0⟩:∃ a,a = s 0:=⟨_,rfl⟩;obtain ⟨a1,h1⟩:∃ a,a = s 1:=⟨_,rfl⟩;obtain ⟨a2,h2⟩:∃ a,a = s 2:=⟨_,rfl⟩;obtain ⟨a3,h3⟩:∃ a,a = s 3:=⟨_,rfl⟩;obtain ⟨a4,h4⟩:∃ a,a = s 4:=⟨_,rfl⟩;obtain ⟨a5,h5⟩:∃ a,a = s 5:=⟨_,rfl⟩;obtain ⟨a6,h6⟩:∃ a,a = s 6:=⟨_,rfl⟩;obtain ⟨a7,h7⟩:∃ a,a = s 7:=⟨_,rfl⟩;obtain ⟨a8,h8⟩:∃ a,a = s 8:=⟨_,rfl⟩;rw [← h0,← h1,← h2,← h3,← h4,← h5,← h6,← h7,← h8];clear h0 h1 h2 h3 h4 h5 h6 h7 h8
  go_enter Tryz.func29,Tryz.ntmps29
  go_wp2;refine bodyPost_ret (v:=.agg #[.int .i64 a0,.int .i64 a1,.int .i64 a2,.int .i64 a3,.int .i64 a4,.int .i64 a5,.int .i64 a6,.int .i64 a7,.int .i64 a8]) (by simp [results,Tryz.results29,go_sem]) rfl ⟨rfl,?_⟩;exact (((Below.refl _ _).alloc (Nat.le_refl _) _).alloc (by simp) _).alloc (by simp <;> omega) _
def OkShape (s:Nat → Int):Prop:=Shp3 (s 0) (s 1) ∧ Shp (s 2) (s 3) ∧ (1 ≤ s 4 ∧ s 4 ≤ 6) ∧ (1 ≤ s 5 ∧ s 5 ≤ 6) ∧ (1 ≤ s 6 ∧ s 6 ≤ 4) ∧ (1 ≤ s 7 ∧ s 7 ≤ 6) ∧ (0 ≤ s 8 ∧ s 8 ≤ 400)
def ShFAns (s:Nat → Int) (x:Int):Prop:=(x = 3 ∧ ¬ OkShape s) ∨ (x = 0 ∧ OkShape s)
theorem box9 {w:World} {b:Nat} {t:TypeId} {a0 a1 a2 a3 a4 a5 a6 a7 a8:Value} (h:Box w b #[a0,a1,a2,a3,a4,a5,a6,a7,a8] t) :
    w.cell? ⟨b,0,none⟩ = some a0 ∧ w.cell? ⟨b,1,none⟩ = some a1 ∧ w.cell? ⟨b,2,none⟩ = some a2 ∧ w.cell? ⟨b,3,none⟩ = some a3 ∧ w.cell? ⟨b,4,none⟩ = some a4 ∧ w.cell? ⟨b,5,none⟩ = some a5 ∧ w.cell? ⟨b,6,none⟩ = some a6 ∧ w.cell? ⟨b,7,none⟩ = some a7 ∧ w.cell? ⟨b,8,none⟩ = some a8 :=
  ⟨h.cell 0,h.cell 1,h.cell 2,h.cell 3,h.cell 4,h.cell 5,h.cell 6,h.cell 7,h.cell 8⟩
set_option maxHeartbeats 4000000 in
theorem specShape_any (s:Nat → Int) (w:World) :
    Calls Tryz.prog 55 #[shapeV s] w fun e w' => ∃ x,e = .returned (.int .i64 x) ∧ ShFAns s x ∧ Below w.heap.size w w':=by
  unfold shapeV;have HOK:Hid (OkShape s ↔ OkShape s):=Iff.rfl;unfold OkShape at HOK;obtain ⟨a0,h0⟩:∃ a,a = s 0:=⟨_,rfl⟩;obtain ⟨a1,h1⟩:∃ a,a = s 1:=⟨_,rfl⟩;obtain ⟨a2,h2⟩:∃ a,a = s 2:=⟨_,rfl⟩;obtain ⟨a3,h3⟩:∃ a,a = s 3:=⟨_,rfl⟩;obtain ⟨a4,h4⟩:∃ a,a = s 4:=⟨_,rfl⟩;obtain ⟨a5,h5⟩:∃ a,a = s 5:=⟨_,rfl⟩;obtain ⟨a6,h6⟩:∃ a,a = s 6:=⟨_,rfl⟩;obtain ⟨a7,h7⟩:∃ a,a = s 7:=⟨_,rfl⟩;obtain ⟨a8,h8⟩:∃ a,a = s 8:=⟨_,rfl⟩
  have HIFF:Hid (OkShape s ↔ (Shp3 a0 a1 ∧ Shp a2 a3 ∧ (1 ≤ a4 ∧ a4 ≤ 6) ∧ (1 ≤ a5 ∧ a5 ≤ 6) ∧ (1 ≤ a6 ∧ a6 ≤ 4) ∧ (1 ≤ a7 ∧ a7 ≤ 6) ∧ (0 ≤ a8 ∧ a8 ≤ 400))):=by
    show OkShape s ↔ _
    rw [h0,h1,h2,h3,h4,h5,h6,h7,h8];exact Iff.rfl
  rw [← h0,← h1,← h2,← h3,← h4,← h5,← h6,← h7,← h8];clear h0 h1 h2 h3 h4 h5 h6 h7 h8 HOK
  go_enter Tryz.func55,Tryz.ntmps55
  go_wp2_with fail
  refine (l3Shape_any a0 a1 _).mono ?_;rintro e w1 ⟨b1,rfl,hb1,b1'⟩;have X1:Box w1 w.heap.size #[.int .i64 a0,.int .i64 a1,.int .i64 a2,.int .i64 a3,.int .i64 a4,.int .i64 a5,.int .i64 a6,.int .i64 a7,.int .i64 a8] 33:=(box_new w _ _).below b1' (by simp);have B1:Below w.heap.size w w1:=bnew b1';have H1:Hid (b1 = true ↔ Shp3 a0 a1):=hb1;have z1:=X1.lt;obtain ⟨x0,x1,x2,x3,x4,x5,x6,x7,x8⟩:=box9 X1;clear hb1 b1'
  cases b1 with
  | false =>
    have HNO:Hid (¬ OkShape s):=fun h => by have:=H1.out.mpr (HIFF.out.mp h).1;cases this
    clear H1;go_wp2;go_ret;exact ⟨3,rfl,.inl ⟨rfl,HNO.out⟩,B1⟩
  | true =>
    have HS1:Hid (Shp3 a0 a1):=H1.out.mp rfl;clear H1
    go_wp2_with fail
    refine (l2Shape_any a2 a3 _).mono ?_;rintro e w2 ⟨b2,rfl,hb2,b2'⟩;have X2:=X1.below b2' z1;have B2:Below w.heap.size w w2:=B1.trans (b2'.mono B1.size);have H2:Hid (b2 = true ↔ Shp a2 a3):=hb2;clear x0 x1 x2 x3 x4 x5 x6 x7 x8;obtain ⟨x0,x1,x2,x3,x4,x5,x6,x7,x8⟩:=box9 X2;clear hb2 b2' X1 B1
    cases b2 with
    | false =>
      have HNO:Hid (¬ OkShape s):=fun h => by have:=H2.out.mpr (HIFF.out.mp h).2.1;cases this
      clear H2;go_wp2;go_ret;exact ⟨3,rfl,.inl ⟨rfl,HNO.out⟩,B2⟩
    | true =>
      have HS2:Hid (Shp a2 a3):=H2.out.mp rfl;clear H2
      by_cases c4:1 ≤ a4 ∧ a4 ≤ 6
      · by_cases c5:1 ≤ a5 ∧ a5 ≤ 6
        · by_cases c6:1 ≤ a6 ∧ a6 ≤ 4
          · by_cases c7:1 ≤ a7 ∧ a7 ≤ 6
            · by_cases c8:0 ≤ a8 ∧ a8 ≤ 400
              · have HY:Hid (OkShape s):=HIFF.out.mpr ⟨HS1.out,HS2.out,c4,c5,c6,c7,c8⟩
                go_wp2_with fail
                refine (l1In_yes a4 1 6 c4.1 c4.2 _).mono ?_;rintro e w3 ⟨rfl,hw⟩;obtain rfl:=hw.symm
                go_wp2_with fail
                refine (l1In_yes a5 1 6 c5.1 c5.2 _).mono ?_;rintro e w3 ⟨rfl,hw⟩;obtain rfl:=hw.symm
                go_wp2_with fail
                refine (l1In_yes a6 1 4 c6.1 c6.2 _).mono ?_;rintro e w3 ⟨rfl,hw⟩;obtain rfl:=hw.symm
                go_wp2_with fail
                refine (l1In_yes a7 1 6 c7.1 c7.2 _).mono ?_;rintro e w3 ⟨rfl,hw⟩;obtain rfl:=hw.symm
                go_wp2_with fail
                refine (l1In_yes a8 0 400 c8.1 c8.2 _).mono ?_;rintro e w3 ⟨rfl,hw⟩;obtain rfl:=hw.symm;go_wp2;go_ret;exact ⟨0,rfl,.inr ⟨rfl,HY.out⟩,B2⟩
              · have HN:Hid (¬ OkShape s):=fun h => c8 (HIFF.out.mp h).2.2.2.2.2.2
                have c8':a8 < 0 ∨ 400 < a8:=by omega
                clear c8
                go_wp2_with fail
                refine (l1In_yes a4 1 6 c4.1 c4.2 _).mono ?_;rintro e w3 ⟨rfl,hw⟩;obtain rfl:=hw.symm
                go_wp2_with fail
                refine (l1In_yes a5 1 6 c5.1 c5.2 _).mono ?_;rintro e w3 ⟨rfl,hw⟩;obtain rfl:=hw.symm
                go_wp2_with fail
                refine (l1In_yes a6 1 4 c6.1 c6.2 _).mono ?_;rintro e w3 ⟨rfl,hw⟩;obtain rfl:=hw.symm
                go_wp2_with fail
                refine (l1In_yes a7 1 6 c7.1 c7.2 _).mono ?_;rintro e w3 ⟨rfl,hw⟩;obtain rfl:=hw.symm
                go_wp2_with fail
                refine (l1In_no a8 0 400 c8' _).mono ?_;rintro e w3 ⟨rfl,hw⟩;obtain rfl:=hw.symm;go_wp2;go_ret;exact ⟨3,rfl,.inl ⟨rfl,HN.out⟩,B2⟩
            · have HN:Hid (¬ OkShape s):=fun h => c7 (HIFF.out.mp h).2.2.2.2.2.1
              have c7':a7 < 1 ∨ 6 < a7:=by omega
              clear c7
              go_wp2_with fail
              refine (l1In_yes a4 1 6 c4.1 c4.2 _).mono ?_;rintro e w3 ⟨rfl,hw⟩;obtain rfl:=hw.symm
              go_wp2_with fail
              refine (l1In_yes a5 1 6 c5.1 c5.2 _).mono ?_;rintro e w3 ⟨rfl,hw⟩;obtain rfl:=hw.symm
              go_wp2_with fail
              refine (l1In_yes a6 1 4 c6.1 c6.2 _).mono ?_;rintro e w3 ⟨rfl,hw⟩;obtain rfl:=hw.symm
              go_wp2_with fail
              refine (l1In_no a7 1 6 c7' _).mono ?_;rintro e w3 ⟨rfl,hw⟩;obtain rfl:=hw.symm;go_wp2;go_ret;exact ⟨3,rfl,.inl ⟨rfl,HN.out⟩,B2⟩
          · have HN:Hid (¬ OkShape s):=fun h => c6 (HIFF.out.mp h).2.2.2.2.1
            have c6':a6 < 1 ∨ 4 < a6:=by omega
            clear c6
            go_wp2_with fail
            refine (l1In_yes a4 1 6 c4.1 c4.2 _).mono ?_;rintro e w3 ⟨rfl,hw⟩;obtain rfl:=hw.symm
            go_wp2_with fail
            refine (l1In_yes a5 1 6 c5.1 c5.2 _).mono ?_;rintro e w3 ⟨rfl,hw⟩;obtain rfl:=hw.symm
            go_wp2_with fail
            refine (l1In_no a6 1 4 c6' _).mono ?_;rintro e w3 ⟨rfl,hw⟩;obtain rfl:=hw.symm;go_wp2;go_ret;exact ⟨3,rfl,.inl ⟨rfl,HN.out⟩,B2⟩
        · have HN:Hid (¬ OkShape s):=fun h => c5 (HIFF.out.mp h).2.2.2.1
          have c5':a5 < 1 ∨ 6 < a5:=by omega
          clear c5
          go_wp2_with fail
          refine (l1In_yes a4 1 6 c4.1 c4.2 _).mono ?_;rintro e w3 ⟨rfl,hw⟩;obtain rfl:=hw.symm
          go_wp2_with fail
          refine (l1In_no a5 1 6 c5' _).mono ?_;rintro e w3 ⟨rfl,hw⟩;obtain rfl:=hw.symm;go_wp2;go_ret;exact ⟨3,rfl,.inl ⟨rfl,HN.out⟩,B2⟩
      · have HN:Hid (¬ OkShape s):=fun h => c4 (HIFF.out.mp h).2.2.1
        have c4':a4 < 1 ∨ 6 < a4:=by omega
        clear c4
        go_wp2_with fail
        refine (l1In_no a4 1 6 c4' _).mono ?_;rintro e w3 ⟨rfl,hw⟩;obtain rfl:=hw.symm;go_wp2;go_ret;exact ⟨3,rfl,.inl ⟨rfl,HN.out⟩,B2⟩
end Go.Proofs.YtbjblbbbafiepaaGreat
namespace Go.Proofs.YtbjblbbbafiepaaGreat
open Go.RowKit F256
set_option maxHeartbeats 8000000 in
set_option maxRecDepth 20000 in
theorem toBlock_is:ToV layBlock szBlockD 133:=fun cs d hi w r hhi hn => by
  obtain ⟨ao1,cap1,rfl,h1,k0⟩:=Block_rd r;clear r;unfold szBlockD at hn;have R1:Hid (layBytes.rd w hi d.bytes [.slice ao1 d.bytes.1 cap1]):=h1;clear h1;have Q0:Hid ((-9223372036854775808 ≤ d.stamp ∧ d.stamp ≤ 9223372036854775807)):=k0;clear k0
  go_enter Tryz.func133,Tryz.ntmps133
  go_wp2_with fail
  have T0:=three_newb w #[.int .i64 d.stamp,.slice ao1 d.bytes.1 cap1] #[.int .i64 0,.slice none 0 0] #[.int .i64 d.stamp,.slice none 0 0] 154 111 111;refine (toBytes_is _ d.bytes hi _ (layBytes.rd_below R1.out T0.bel hhi) (Nat.le_trans hhi T0.bel.size) (by omega)).mono ?_;rintro e w1 ⟨v1,rfl,o1,b1⟩;have L1:=T0.lt;obtain ⟨bo1,bcap1,hv⟩:=bytes_formT o1;obtain rfl:=one_eq hv;clear hv;have T1:Three w w1 #[.int .i64 d.stamp,.slice ao1 d.bytes.1 cap1] #[.int .i64 0,.slice none 0 0] #[.int .i64 d.stamp,.slice none 0 0] 154 111 111:=T0.call b1;have O1:Hid (OwnT layBytes w1 (w.heap.size + 1 + 1 + 1) (w1.heap.size) d.bytes [.slice bo1 d.bytes.1 bcap1]):=o1.weaken (by simp <;> omega) (Nat.le_refl _);clear o1;have LT1:w.heap.size + 1 + 1 + 1 ≤ w1.heap.size:=T1.lt;have y1_0:w1.cell? ⟨w.heap.size + 1 + 1,0,none⟩ = some (.int .i64 d.stamp):=T1.b3.cell 0;have y1_1:w1.cell? ⟨w.heap.size + 1 + 1,1,none⟩ = some (.slice none 0 0):=T1.b3.cell 1;have yf1_1:w1.frozen? ⟨w.heap.size + 1 + 1,1,none⟩ = false:=T1.b3.frozen 1;have z1_0:w1.cell? ⟨w.heap.size + 1,0,none⟩ = some (.int .i64 0):=T1.b2.cell 0;have zf1_0:w1.frozen? ⟨w.heap.size + 1,0,none⟩ = false:=T1.b2.frozen 0;have z1_1:w1.cell? ⟨w.heap.size + 1,1,none⟩ = some (.slice none 0 0):=T1.b2.cell 1;have zf1_1:w1.frozen? ⟨w.heap.size + 1,1,none⟩ = false:=T1.b2.frozen 1;have Bq:Hid (Below w.heap.size w w1):=T1.bel;clear T1 b1;go_wp2;refine bodyPost_ret (v:=.agg #[.int .i64 d.stamp,.slice bo1 d.bytes.1 bcap1]) (by simp [results,Tryz.results133,go_sem,y1_0,z1_0,y1_1,z1_1]) rfl ?_;have F:OwnT layBlock w1 (w.heap.size + 1 + 1 + 1) w1.heap.size d ([.int .i64 d.stamp] ++ [.slice bo1 d.bytes.1 bcap1]):=OwnT.conv (OwnT.pre (A:=layI) (a:=d.stamp) (c:=[.int .i64 d.stamp]) ⟨rfl,Q0.out,rfl⟩ (O1.out));exact ⟨[.int .i64 d.stamp,.slice bo1 d.bytes.1 bcap1],rfl,OwnT.fin F 1 0 [.slice bo1 d.bytes.1 bcap1] [.int .i64 d.stamp,.slice bo1 d.bytes.1 bcap1] _ rfl,below_fin Bq.out 1 0 [.slice bo1 d.bytes.1 bcap1] [.int .i64 d.stamp,.slice bo1 d.bytes.1 bcap1] _ rfl⟩
theorem info_BlockS:(Tryz.prog.info? 111).map (fun i => (i.zero.map (·.cells),i.size,i.bytes)) = some (some #[.int .i64 0,.slice none 0 0],2,32):=by kernel_rfl
set_option maxHeartbeats 4000000 in
theorem toBlockS_is:ToS (layBlock.slice 111) (szSl szBlockD) 117:=fun v d hi w h hhi hn => by
  obtain ⟨n,x⟩:=d;obtain ⟨ao,cap,hv,hm,hc⟩:=h
  cases hv
  have hn1:=szSl_n hn;have hn2:∀ i,i < n → szBlockD (x i) ≤ 1048576:=fun i hi => szSl_at hn hi
  simp only at hn1 hm hc
  clear hn
  go_enter Tryz.func117,Tryz.ntmps117
  go_wp2_with (at_make;refine wp_makeT layBlock [.int .i64 0,.slice none 0 0] _ 111 32 (by decide) rfl Tryz.underlying96 info_BlockS x (fun _ => []) _ rfl _ _ rfl _ _ n rfl rfl rfl rfl (by omega) (by omega) ?_;intro w1 sp1 hb1)
  go_loopw [4] (fun i wr => ∃ k:Nat,k ≤ n ∧ i = .int .i64 k ∧ ∃ ce Ls,SlP layBlock 111 wr w.heap.size w.heap.size n n k x ce Ls ∧ Below w.heap.size w wr) (fun i _ => n - (intOf i).toNat)
  case atStart => exact ⟨0,Nat.zero_le _,rfl,_,_,sp1,hb1⟩
  case round =>
    clear sp1 hb1;obtain ⟨k,hk,rfl,ce,Ls,sp,hb⟩:=hrel
    by_cases hlt:k < n
    · obtain ⟨b,off,rfl,hblt,hel⟩:=hc (by omega)
      obtain ⟨ck,hrk,hcell⟩:=elem_rd (t:=0) hel hb hhi hblt hlt;obtain ⟨ao1,cap1,rfl,-⟩:=Block_rd hrk;have c0:wr.cell? ⟨b,off + k * 2,none⟩ = some (.int .i64 (x k).stamp):=hcell 0 (by decide);have c1:wr.cell? ⟨b,off + k * 2 + 1,none⟩ = some (.slice ao1 (x k).bytes.1 cap1):=hcell 1 (by decide);clear hc hel hcell
      go_wp2_with fail
      refine (toBlock_is _ (x k) hi wr hrk (Nat.le_trans hhi hb.size) (hn2 k hlt)).mono ?_;rintro e w2 ⟨cs',rfl,o2,hb2⟩;obtain ⟨bao1,bcap1,rfl⟩:=Block_cells o2;obtain ⟨z0,s0⟩:=sp.some hb2 hlt (show 0 < layBlock.sz by decide);have s0:w2.cell? ⟨w.heap.size,k * 2,none⟩ = some z0:=s0;have sf0:=(sp.below hb2).frozen (k * 2);obtain ⟨z1,s1⟩:=sp.some hb2 hlt (show 1 < layBlock.sz by decide);have s1:w2.cell? ⟨w.heap.size,k * 2 + 1,none⟩ = some z1:=s1;have sf1:=(sp.below hb2).frozen (k * 2 + 1);have N:=sp.next hb2 hlt o2 hb.size;have N2:Below w.heap.size w (stN w2 w.heap.size (k * layBlock.sz) [.int .i64 (x k).stamp,.slice bao1 (x k).bytes.1 bcap1]):=(hb.trans (hb2.mono hb.size)).trans (stN_below (Nat.le_refl _) _ _);clear o2 hb2 sp hb
      go_wp2_with fail
      go_roundw
      case rel =>
        obtain ⟨ce',Ls',N⟩:=N;exact ⟨k + 1,by omega,by go_num,ce',Ls',N,N2⟩
      case measure => simp [intOf];omega
    · obtain rfl:k = n:=by omega
      go_wp2;go_ret;exact ⟨_,rfl,sp.done (Nat.le_refl _),hb⟩
set_option maxHeartbeats 8000000 in
set_option maxRecDepth 20000 in
theorem toDrive_is:ToV layDrive szDriveD 95:=fun cs d hi w r hhi hn => by
  obtain ⟨ao1,cap1,rfl,h1⟩:=Drive_rd r;clear r;unfold szDriveD at hn;have R1:Hid ((layBlock.slice 111).rd w hi d.blocks [.slice ao1 d.blocks.1 cap1]):=h1;clear h1
  go_enter Tryz.func95,Tryz.ntmps95
  go_wp2_with fail
  have T0:=three_newb w #[.bool d.wiped,.slice ao1 d.blocks.1 cap1] #[.bool false,.slice none 0 0] #[.bool d.wiped,.slice none 0 0] 120 98 98;refine (toBlockS_is _ d.blocks hi _ ((layBlock.slice 111).rd_below R1.out T0.bel hhi) (Nat.le_trans hhi T0.bel.size) (by omega)).mono ?_;rintro e w1 ⟨v1,rfl,o1,b1⟩;have L1:=T0.lt;obtain ⟨bo1,bcap1,hv⟩:=sl_formT o1;obtain rfl:=one_eq hv;clear hv;have T1:Three w w1 #[.bool d.wiped,.slice ao1 d.blocks.1 cap1] #[.bool false,.slice none 0 0] #[.bool d.wiped,.slice none 0 0] 120 98 98:=T0.call b1;have O1:Hid (OwnT (layBlock.slice 111) w1 (w.heap.size + 1 + 1 + 1) (w1.heap.size) d.blocks [.slice bo1 d.blocks.1 bcap1]):=o1.weaken (by simp <;> omega) (Nat.le_refl _);clear o1;have LT1:w.heap.size + 1 + 1 + 1 ≤ w1.heap.size:=T1.lt;have y1_0:w1.cell? ⟨w.heap.size + 1 + 1,0,none⟩ = some (.bool d.wiped):=T1.b3.cell 0;have y1_1:w1.cell? ⟨w.heap.size + 1 + 1,1,none⟩ = some (.slice none 0 0):=T1.b3.cell 1;have yf1_1:w1.frozen? ⟨w.heap.size + 1 + 1,1,none⟩ = false:=T1.b3.frozen 1;have z1_0:w1.cell? ⟨w.heap.size + 1,0,none⟩ = some (.bool false):=T1.b2.cell 0;have zf1_0:w1.frozen? ⟨w.heap.size + 1,0,none⟩ = false:=T1.b2.frozen 0;have z1_1:w1.cell? ⟨w.heap.size + 1,1,none⟩ = some (.slice none 0 0):=T1.b2.cell 1;have zf1_1:w1.frozen? ⟨w.heap.size + 1,1,none⟩ = false:=T1.b2.frozen 1;have Bq:Hid (Below w.heap.size w w1):=T1.bel;clear T1 b1;go_wp2;refine bodyPost_ret (v:=.agg #[.bool d.wiped,.slice bo1 d.blocks.1 bcap1]) (by simp [results,Tryz.results95,go_sem,y1_0,z1_0,y1_1,z1_1]) rfl ?_;have F:OwnT layDrive w1 (w.heap.size + 1 + 1 + 1) w1.heap.size d ([.bool d.wiped] ++ [.slice bo1 d.blocks.1 bcap1]):=OwnT.conv (OwnT.pre (A:=layB) (a:=d.wiped) (c:=[.bool d.wiped]) ⟨rfl,trivial,rfl⟩ (O1.out));exact ⟨[.bool d.wiped,.slice bo1 d.blocks.1 bcap1],rfl,OwnT.fin F 1 0 [.slice bo1 d.blocks.1 bcap1] [.bool d.wiped,.slice bo1 d.blocks.1 bcap1] _ rfl,below_fin Bq.out 1 0 [.slice bo1 d.blocks.1 bcap1] [.bool d.wiped,.slice bo1 d.blocks.1 bcap1] _ rfl⟩
theorem info_DriveS:(Tryz.prog.info? 98).map (fun i => (i.zero.map (·.cells),i.size,i.bytes)) = some (some #[.bool false,.slice none 0 0],2,32):=by kernel_rfl
set_option maxHeartbeats 4000000 in
theorem toDriveS_is:ToS (layDrive.slice 98) (szSl szDriveD) 60:=fun v d hi w h hhi hn => by
  obtain ⟨n,x⟩:=d;obtain ⟨ao,cap,hv,hm,hc⟩:=h
  cases hv
  have hn1:=szSl_n hn;have hn2:∀ i,i < n → szDriveD (x i) ≤ 1048576:=fun i hi => szSl_at hn hi
  simp only at hn1 hm hc
  clear hn
  go_enter Tryz.func60,Tryz.ntmps60
  go_wp2_with (at_make;refine wp_makeT layDrive [.bool false,.slice none 0 0] _ 98 32 (by decide) rfl Tryz.underlying95 info_DriveS x (fun _ => []) _ rfl _ _ rfl _ _ n rfl rfl rfl rfl (by omega) (by omega) ?_;intro w1 sp1 hb1)
  go_loopw [4] (fun i wr => ∃ k:Nat,k ≤ n ∧ i = .int .i64 k ∧ ∃ ce Ls,SlP layDrive 98 wr w.heap.size w.heap.size n n k x ce Ls ∧ Below w.heap.size w wr) (fun i _ => n - (intOf i).toNat)
  case atStart => exact ⟨0,Nat.zero_le _,rfl,_,_,sp1,hb1⟩
  case round =>
    clear sp1 hb1;obtain ⟨k,hk,rfl,ce,Ls,sp,hb⟩:=hrel
    by_cases hlt:k < n
    · obtain ⟨b,off,rfl,hblt,hel⟩:=hc (by omega)
      obtain ⟨ck,hrk,hcell⟩:=elem_rd (t:=0) hel hb hhi hblt hlt;obtain ⟨ao1,cap1,rfl,-⟩:=Drive_rd hrk;have c0:wr.cell? ⟨b,off + k * 2,none⟩ = some (.bool (x k).wiped):=hcell 0 (by decide);have c1:wr.cell? ⟨b,off + k * 2 + 1,none⟩ = some (.slice ao1 (x k).blocks.1 cap1):=hcell 1 (by decide);clear hc hel hcell
      go_wp2_with fail
      refine (toDrive_is _ (x k) hi wr hrk (Nat.le_trans hhi hb.size) (hn2 k hlt)).mono ?_;rintro e w2 ⟨cs',rfl,o2,hb2⟩;obtain ⟨bao1,bcap1,rfl⟩:=Drive_cells o2;obtain ⟨z0,s0⟩:=sp.some hb2 hlt (show 0 < layDrive.sz by decide);have s0:w2.cell? ⟨w.heap.size,k * 2,none⟩ = some z0:=s0;have sf0:=(sp.below hb2).frozen (k * 2);obtain ⟨z1,s1⟩:=sp.some hb2 hlt (show 1 < layDrive.sz by decide);have s1:w2.cell? ⟨w.heap.size,k * 2 + 1,none⟩ = some z1:=s1;have sf1:=(sp.below hb2).frozen (k * 2 + 1);have N:=sp.next hb2 hlt o2 hb.size;have N2:Below w.heap.size w (stN w2 w.heap.size (k * layDrive.sz) [.bool (x k).wiped,.slice bao1 (x k).blocks.1 bcap1]):=(hb.trans (hb2.mono hb.size)).trans (stN_below (Nat.le_refl _) _ _);clear o2 hb2 sp hb
      go_wp2_with fail
      go_roundw
      case rel =>
        obtain ⟨ce',Ls',N⟩:=N;exact ⟨k + 1,by omega,by go_num,ce',Ls',N,N2⟩
      case measure => simp [intOf];omega
    · obtain rfl:k = n:=by omega
      go_wp2;go_ret;exact ⟨_,rfl,sp.done (Nat.le_refl _),hb⟩
theorem info_DriveSS:(Tryz.prog.info? 95).map (fun i => (i.zero.map (·.cells),i.size,i.bytes)) = some (some #[.slice none 0 0],1,24):=by kernel_rfl
set_option maxHeartbeats 4000000 in
theorem toDriveSS_is:ToS ((layDrive.slice 98).slice 95) (szSl (szSl szDriveD)) 30:=fun v d hi w h hhi hn => by
  obtain ⟨n,x⟩:=d;obtain ⟨ao,cap,hv,hm,hc⟩:=h
  cases hv
  have hn1:=szSl_n hn;have hn2:∀ i,i < n → (szSl szDriveD) (x i) ≤ 1048576:=fun i hi => szSl_at hn hi
  simp only at hn1 hm hc
  clear hn
  go_enter Tryz.func30,Tryz.ntmps30
  go_wp2_with (at_make;refine wp_makeT (layDrive.slice 98) [.slice none 0 0] _ 95 24 (by decide) rfl Tryz.underlying34 info_DriveSS x (fun _ => []) _ rfl _ _ rfl _ _ n rfl rfl rfl rfl (by omega) (by omega) ?_;intro w1 sp1 hb1)
  go_loopw [4] (fun i wr => ∃ k:Nat,k ≤ n ∧ i = .int .i64 k ∧ ∃ ce Ls,SlP (layDrive.slice 98) 95 wr w.heap.size w.heap.size n n k x ce Ls ∧ Below w.heap.size w wr) (fun i _ => n - (intOf i).toNat)
  case atStart => exact ⟨0,Nat.zero_le _,rfl,_,_,sp1,hb1⟩
  case round =>
    clear sp1 hb1;obtain ⟨k,hk,rfl,ce,Ls,sp,hb⟩:=hrel
    by_cases hlt:k < n
    · obtain ⟨b,off,rfl,hblt,hel⟩:=hc (by omega)
      obtain ⟨ck,hrk,hcell⟩:=elem_rd (t:=0) hel hb hhi hblt hlt;obtain ⟨ao9,cap9,rfl⟩:=sl_form hrk
      have c0:wr.cell? ⟨b,off + k,none⟩ = some (.slice ao9 (x k).1 cap9):=by
        have h:=hcell 0 (show 0 < 1 by decide);rw [show (layDrive.slice 98).sz = 1 from rfl,Nat.mul_one,Nat.add_zero] at h;exact h
      clear hc hel hcell
      go_wp2_with fail
      refine (toDriveS_is _ (x k) hi wr hrk (Nat.le_trans hhi hb.size) (hn2 k hlt)).mono ?_;rintro e w2 ⟨v',rfl,o2,hb2⟩;obtain ⟨bao9,bcap9,hv'⟩:=sl_formT o2;obtain rfl:=one_eq hv';clear hv';obtain ⟨z0,s0⟩:=sp.some hb2 hlt (show 0 < (layDrive.slice 98).sz by decide);rw [show (layDrive.slice 98).sz = 1 from rfl,Nat.mul_one,Nat.add_zero] at s0;have sf0:=(sp.below hb2).frozen k;have N:=sp.next hb2 hlt o2 hb.size;have N2:Below w.heap.size w (stN w2 w.heap.size (k * (layDrive.slice 98).sz) [.slice bao9 (x k).1 bcap9]):=(hb.trans (hb2.mono hb.size)).trans (stN_below (Nat.le_refl _) _ _);rw [show (layDrive.slice 98).sz = 1 from rfl,Nat.mul_one] at N N2;clear o2 hb2 sp hb
      go_wp2_with fail
      go_roundw
      case rel =>
        obtain ⟨ce',Ls',N⟩:=N;exact ⟨k + 1,by omega,by go_num,ce',Ls',N,N2⟩
      case measure => simp [intOf];omega
    · obtain rfl:k = n:=by omega
      go_wp2;go_ret;exact ⟨_,rfl,sp.done (Nat.le_refl _),hb⟩
end Go.Proofs.YtbjblbbbafiepaaGreat
namespace Go.Proofs.YtbjblbbbafiepaaGreat
open Go.RowKit F256
set_option maxHeartbeats 8000000 in
set_option maxRecDepth 20000 in
theorem toRec_is:ToV layRec szRecD 118:=fun cs d hi w r hhi hn => by
  obtain ⟨ao6,cap6,ao7,cap7,ao8,cap8,rfl,h6,h7,h8,k0,k1,k2,k3,k4,k5⟩:=Rec_rd r;clear r;unfold szRecD at hn;have R6:Hid (layInts.rd w hi d.rows [.slice ao6 d.rows.1 cap6]):=h6;have R7:Hid (layBytes.rd w hi d.data [.slice ao7 d.data.1 cap7]):=h7;have R8:Hid (layBytes.rd w hi d.delta [.slice ao8 d.delta.1 cap8]):=h8;clear h6 h7 h8;have Q0:Hid ((-9223372036854775808 ≤ d.kind ∧ d.kind ≤ 9223372036854775807)):=k0;have Q1:Hid ((-9223372036854775808 ≤ d.seq ∧ d.seq ≤ 9223372036854775807)):=k1;have Q2:Hid (d.name.size ≤ maxLen):=k2;have Q3:Hid ((-9223372036854775808 ≤ d.length ∧ d.length ≤ 9223372036854775807)):=k3;have Q4:Hid ((-9223372036854775808 ≤ d.group ∧ d.group ≤ 9223372036854775807)):=k4;have Q5:Hid ((-9223372036854775808 ≤ d.row ∧ d.row ≤ 9223372036854775807)):=k5;clear k0 k1 k2 k3 k4 k5
  go_enter Tryz.func118,Tryz.ntmps118
  go_wp2_with fail
  have T0:=three_newb w #[.int .i64 d.kind,.int .i64 d.seq,.string d.name,.int .i64 d.length,.int .i64 d.group,.int .i64 d.row,.slice ao6 d.rows.1 cap6,.slice ao7 d.data.1 cap7,.slice ao8 d.delta.1 cap8] #[.int .i64 0,.int .i64 0,.string ByteArray.empty,.int .i64 0,.int .i64 0,.int .i64 0,.slice none 0 0,.slice none 0 0,.slice none 0 0] #[.int .i64 d.kind,.int .i64 d.seq,.string d.name,.int .i64 d.length,.int .i64 d.group,.int .i64 d.row,.slice none 0 0,.slice none 0 0,.slice none 0 0] 141 93 93;refine (toInts_is _ d.rows hi _ (layInts.rd_below R6.out T0.bel hhi) (Nat.le_trans hhi T0.bel.size) (by omega)).mono ?_;rintro e w1 ⟨v1,rfl,o1,b1⟩;have L1:=T0.lt;obtain ⟨bo6,bcap6,hv⟩:=ints_formT o1;obtain rfl:=one_eq hv;clear hv;have T1:Three w w1 #[.int .i64 d.kind,.int .i64 d.seq,.string d.name,.int .i64 d.length,.int .i64 d.group,.int .i64 d.row,.slice ao6 d.rows.1 cap6,.slice ao7 d.data.1 cap7,.slice ao8 d.delta.1 cap8] #[.int .i64 0,.int .i64 0,.string ByteArray.empty,.int .i64 0,.int .i64 0,.int .i64 0,.slice none 0 0,.slice none 0 0,.slice none 0 0] #[.int .i64 d.kind,.int .i64 d.seq,.string d.name,.int .i64 d.length,.int .i64 d.group,.int .i64 d.row,.slice none 0 0,.slice none 0 0,.slice none 0 0] 141 93 93:=T0.call b1;have O6:Hid (OwnT layInts w1 (w.heap.size + 1 + 1 + 1) (w1.heap.size) d.rows [.slice bo6 d.rows.1 bcap6]):=o1.weaken (by simp <;> omega) (Nat.le_refl _);clear o1;have LT1:w.heap.size + 1 + 1 + 1 ≤ w1.heap.size:=T1.lt;have x1_7:w1.cell? ⟨w.heap.size,7,none⟩ = some (.slice ao7 d.data.1 cap7):=T1.b1.cell 7;have y1_6:w1.cell? ⟨w.heap.size + 1 + 1,6,none⟩ = some (.slice none 0 0):=T1.b3.cell 6;have yf1_6:w1.frozen? ⟨w.heap.size + 1 + 1,6,none⟩ = false:=T1.b3.frozen 6;have V1:Three w (w1.setCell ⟨w.heap.size + 1 + 1,6,none⟩ (.slice bo6 d.rows.1 bcap6)) #[.int .i64 d.kind,.int .i64 d.seq,.string d.name,.int .i64 d.length,.int .i64 d.group,.int .i64 d.row,.slice ao6 d.rows.1 cap6,.slice ao7 d.data.1 cap7,.slice ao8 d.delta.1 cap8] #[.int .i64 0,.int .i64 0,.string ByteArray.empty,.int .i64 0,.int .i64 0,.int .i64 0,.slice none 0 0,.slice none 0 0,.slice none 0 0] #[.int .i64 d.kind,.int .i64 d.seq,.string d.name,.int .i64 d.length,.int .i64 d.group,.int .i64 d.row,.slice bo6 d.rows.1 bcap6,.slice none 0 0,.slice none 0 0] 141 93 93:=T1.st3 6 [.slice bo6 d.rows.1 bcap6] (c3':=[.int .i64 d.kind,.int .i64 d.seq,.string d.name,.int .i64 d.length,.int .i64 d.group,.int .i64 d.row,.slice bo6 d.rows.1 bcap6,.slice none 0 0,.slice none 0 0]) rfl;clear T1 b1
  go_wp2_with fail
  refine (toBytes_is _ d.data hi _ (layBytes.rd_below R7.out V1.bel hhi) (Nat.le_trans hhi V1.bel.size) (by omega)).mono ?_;rintro e w2 ⟨v2,rfl,o2,b2⟩;have L2:=V1.lt;obtain ⟨bo7,bcap7,hv⟩:=bytes_formT o2;obtain rfl:=one_eq hv;clear hv;have T2:Three w w2 #[.int .i64 d.kind,.int .i64 d.seq,.string d.name,.int .i64 d.length,.int .i64 d.group,.int .i64 d.row,.slice ao6 d.rows.1 cap6,.slice ao7 d.data.1 cap7,.slice ao8 d.delta.1 cap8] #[.int .i64 0,.int .i64 0,.string ByteArray.empty,.int .i64 0,.int .i64 0,.int .i64 0,.slice none 0 0,.slice none 0 0,.slice none 0 0] #[.int .i64 d.kind,.int .i64 d.seq,.string d.name,.int .i64 d.length,.int .i64 d.group,.int .i64 d.row,.slice bo6 d.rows.1 bcap6,.slice none 0 0,.slice none 0 0] 141 93 93:=V1.call b2;have O6x:OwnT layInts w2 (w.heap.size + 1 + 1 + 1) (w1.heap.size) d.rows [.slice bo6 d.rows.1 bcap6]:=((O6.out).set (show w.heap.size + 1 + 1 < _ by omega)).call b2;clear O6;have O6:Hid (OwnT layInts w2 (w.heap.size + 1 + 1 + 1) (w1.heap.size) d.rows [.slice bo6 d.rows.1 bcap6]):=O6x;clear O6x;have O7:Hid (OwnT layBytes w2 (w1.heap.size) (w2.heap.size) d.data [.slice bo7 d.data.1 bcap7]):=o2.weaken (by simp <;> omega) (Nat.le_refl _);clear o2;have LT2:w.heap.size + 1 + 1 + 1 ≤ w2.heap.size:=T2.lt
  have S2:w1.heap.size ≤ w2.heap.size:=by
    have:=b2.size
    simpa using this
  have x2_8:w2.cell? ⟨w.heap.size,8,none⟩ = some (.slice ao8 d.delta.1 cap8):=T2.b1.cell 8;have y2_7:w2.cell? ⟨w.heap.size + 1 + 1,7,none⟩ = some (.slice none 0 0):=T2.b3.cell 7;have yf2_7:w2.frozen? ⟨w.heap.size + 1 + 1,7,none⟩ = false:=T2.b3.frozen 7;have V2:Three w (w2.setCell ⟨w.heap.size + 1 + 1,7,none⟩ (.slice bo7 d.data.1 bcap7)) #[.int .i64 d.kind,.int .i64 d.seq,.string d.name,.int .i64 d.length,.int .i64 d.group,.int .i64 d.row,.slice ao6 d.rows.1 cap6,.slice ao7 d.data.1 cap7,.slice ao8 d.delta.1 cap8] #[.int .i64 0,.int .i64 0,.string ByteArray.empty,.int .i64 0,.int .i64 0,.int .i64 0,.slice none 0 0,.slice none 0 0,.slice none 0 0] #[.int .i64 d.kind,.int .i64 d.seq,.string d.name,.int .i64 d.length,.int .i64 d.group,.int .i64 d.row,.slice bo6 d.rows.1 bcap6,.slice bo7 d.data.1 bcap7,.slice none 0 0] 141 93 93:=T2.st3 7 [.slice bo7 d.data.1 bcap7] (c3':=[.int .i64 d.kind,.int .i64 d.seq,.string d.name,.int .i64 d.length,.int .i64 d.group,.int .i64 d.row,.slice bo6 d.rows.1 bcap6,.slice bo7 d.data.1 bcap7,.slice none 0 0]) rfl;clear T2 b2
  go_wp2_with fail
  refine (toBytes_is _ d.delta hi _ (layBytes.rd_below R8.out V2.bel hhi) (Nat.le_trans hhi V2.bel.size) (by omega)).mono ?_;rintro e w3 ⟨v3,rfl,o3,b3⟩;have L3:=V2.lt;obtain ⟨bo8,bcap8,hv⟩:=bytes_formT o3;obtain rfl:=one_eq hv;clear hv;have T3:Three w w3 #[.int .i64 d.kind,.int .i64 d.seq,.string d.name,.int .i64 d.length,.int .i64 d.group,.int .i64 d.row,.slice ao6 d.rows.1 cap6,.slice ao7 d.data.1 cap7,.slice ao8 d.delta.1 cap8] #[.int .i64 0,.int .i64 0,.string ByteArray.empty,.int .i64 0,.int .i64 0,.int .i64 0,.slice none 0 0,.slice none 0 0,.slice none 0 0] #[.int .i64 d.kind,.int .i64 d.seq,.string d.name,.int .i64 d.length,.int .i64 d.group,.int .i64 d.row,.slice bo6 d.rows.1 bcap6,.slice bo7 d.data.1 bcap7,.slice none 0 0] 141 93 93:=V2.call b3;have O6x:OwnT layInts w3 (w.heap.size + 1 + 1 + 1) (w1.heap.size) d.rows [.slice bo6 d.rows.1 bcap6]:=((O6.out).set (show w.heap.size + 1 + 1 < _ by omega)).call b3;clear O6;have O6:Hid (OwnT layInts w3 (w.heap.size + 1 + 1 + 1) (w1.heap.size) d.rows [.slice bo6 d.rows.1 bcap6]):=O6x;clear O6x;have O7x:OwnT layBytes w3 (w1.heap.size) (w2.heap.size) d.data [.slice bo7 d.data.1 bcap7]:=((O7.out).set (show w.heap.size + 1 + 1 < _ by omega)).call b3;clear O7;have O7:Hid (OwnT layBytes w3 (w1.heap.size) (w2.heap.size) d.data [.slice bo7 d.data.1 bcap7]):=O7x;clear O7x;have O8:Hid (OwnT layBytes w3 (w2.heap.size) (w3.heap.size) d.delta [.slice bo8 d.delta.1 bcap8]):=o3.weaken (by simp <;> omega) (Nat.le_refl _);clear o3;have LT3:w.heap.size + 1 + 1 + 1 ≤ w3.heap.size:=T3.lt
  have S3:w2.heap.size ≤ w3.heap.size:=by
    have:=b3.size
    simpa using this
  have y3_0:w3.cell? ⟨w.heap.size + 1 + 1,0,none⟩ = some (.int .i64 d.kind):=T3.b3.cell 0;have y3_1:w3.cell? ⟨w.heap.size + 1 + 1,1,none⟩ = some (.int .i64 d.seq):=T3.b3.cell 1;have y3_2:w3.cell? ⟨w.heap.size + 1 + 1,2,none⟩ = some (.string d.name):=T3.b3.cell 2;have y3_3:w3.cell? ⟨w.heap.size + 1 + 1,3,none⟩ = some (.int .i64 d.length):=T3.b3.cell 3;have y3_4:w3.cell? ⟨w.heap.size + 1 + 1,4,none⟩ = some (.int .i64 d.group):=T3.b3.cell 4;have y3_5:w3.cell? ⟨w.heap.size + 1 + 1,5,none⟩ = some (.int .i64 d.row):=T3.b3.cell 5;have y3_6:w3.cell? ⟨w.heap.size + 1 + 1,6,none⟩ = some (.slice bo6 d.rows.1 bcap6):=T3.b3.cell 6;have y3_7:w3.cell? ⟨w.heap.size + 1 + 1,7,none⟩ = some (.slice bo7 d.data.1 bcap7):=T3.b3.cell 7;have y3_8:w3.cell? ⟨w.heap.size + 1 + 1,8,none⟩ = some (.slice none 0 0):=T3.b3.cell 8;have yf3_8:w3.frozen? ⟨w.heap.size + 1 + 1,8,none⟩ = false:=T3.b3.frozen 8;have z3_0:w3.cell? ⟨w.heap.size + 1,0,none⟩ = some (.int .i64 0):=T3.b2.cell 0;have zf3_0:w3.frozen? ⟨w.heap.size + 1,0,none⟩ = false:=T3.b2.frozen 0;have z3_1:w3.cell? ⟨w.heap.size + 1,1,none⟩ = some (.int .i64 0):=T3.b2.cell 1;have zf3_1:w3.frozen? ⟨w.heap.size + 1,1,none⟩ = false:=T3.b2.frozen 1;have z3_2:w3.cell? ⟨w.heap.size + 1,2,none⟩ = some (.string ByteArray.empty):=T3.b2.cell 2;have zf3_2:w3.frozen? ⟨w.heap.size + 1,2,none⟩ = false:=T3.b2.frozen 2;have z3_3:w3.cell? ⟨w.heap.size + 1,3,none⟩ = some (.int .i64 0):=T3.b2.cell 3;have zf3_3:w3.frozen? ⟨w.heap.size + 1,3,none⟩ = false:=T3.b2.frozen 3;have z3_4:w3.cell? ⟨w.heap.size + 1,4,none⟩ = some (.int .i64 0):=T3.b2.cell 4;have zf3_4:w3.frozen? ⟨w.heap.size + 1,4,none⟩ = false:=T3.b2.frozen 4;have z3_5:w3.cell? ⟨w.heap.size + 1,5,none⟩ = some (.int .i64 0):=T3.b2.cell 5;have zf3_5:w3.frozen? ⟨w.heap.size + 1,5,none⟩ = false:=T3.b2.frozen 5;have z3_6:w3.cell? ⟨w.heap.size + 1,6,none⟩ = some (.slice none 0 0):=T3.b2.cell 6;have zf3_6:w3.frozen? ⟨w.heap.size + 1,6,none⟩ = false:=T3.b2.frozen 6;have z3_7:w3.cell? ⟨w.heap.size + 1,7,none⟩ = some (.slice none 0 0):=T3.b2.cell 7;have zf3_7:w3.frozen? ⟨w.heap.size + 1,7,none⟩ = false:=T3.b2.frozen 7;have z3_8:w3.cell? ⟨w.heap.size + 1,8,none⟩ = some (.slice none 0 0):=T3.b2.cell 8;have zf3_8:w3.frozen? ⟨w.heap.size + 1,8,none⟩ = false:=T3.b2.frozen 8;have Bq:Hid (Below w.heap.size w w3):=T3.bel;clear T3 b3;go_wp2;refine bodyPost_ret (v:=.agg #[.int .i64 d.kind,.int .i64 d.seq,.string d.name,.int .i64 d.length,.int .i64 d.group,.int .i64 d.row,.slice bo6 d.rows.1 bcap6,.slice bo7 d.data.1 bcap7,.slice bo8 d.delta.1 bcap8]) (by simp [results,Tryz.results118,go_sem,y3_0,z3_0,y3_1,z3_1,y3_2,z3_2,y3_3,z3_3,y3_4,z3_4,y3_5,z3_5,y3_6,z3_6,y3_7,z3_7,y3_8,z3_8]) rfl ?_;have F:OwnT layRec w3 (w.heap.size + 1 + 1 + 1) w3.heap.size d ([.int .i64 d.kind] ++ ([.int .i64 d.seq] ++ ([.string d.name] ++ ([.int .i64 d.length] ++ ([.int .i64 d.group] ++ ([.int .i64 d.row] ++ ([.slice bo6 d.rows.1 bcap6] ++ ([.slice bo7 d.data.1 bcap7] ++ [.slice bo8 d.delta.1 bcap8])))))))):=OwnT.conv (OwnT.pre (A:=layI) (a:=d.kind) (c:=[.int .i64 d.kind]) ⟨rfl,Q0.out,rfl⟩ (OwnT.pre (A:=layI) (a:=d.seq) (c:=[.int .i64 d.seq]) ⟨rfl,Q1.out,rfl⟩ (OwnT.pre (A:=layS) (a:=d.name) (c:=[.string d.name]) ⟨rfl,Q2.out,rfl⟩ (OwnT.pre (A:=layI) (a:=d.length) (c:=[.int .i64 d.length]) ⟨rfl,Q3.out,rfl⟩ (OwnT.pre (A:=layI) (a:=d.group) (c:=[.int .i64 d.group]) ⟨rfl,Q4.out,rfl⟩ (OwnT.pre (A:=layI) (a:=d.row) (c:=[.int .i64 d.row]) ⟨rfl,Q5.out,rfl⟩ (OwnT.two O6.out (OwnT.two O7.out (O8.out) (by omega) (by omega) (by omega)) (by omega) (by omega) (by omega))))))))
  exact ⟨[.int .i64 d.kind,.int .i64 d.seq,.string d.name,.int .i64 d.length,.int .i64 d.group,.int .i64 d.row,.slice bo6 d.rows.1 bcap6,.slice bo7 d.data.1 bcap7,.slice bo8 d.delta.1 bcap8],rfl,OwnT.fin F 8 0 [.slice bo8 d.delta.1 bcap8] [.int .i64 d.kind,.int .i64 d.seq,.string d.name,.int .i64 d.length,.int .i64 d.group,.int .i64 d.row,.slice bo6 d.rows.1 bcap6,.slice bo7 d.data.1 bcap7,.slice bo8 d.delta.1 bcap8] _ rfl,below_fin Bq.out 8 0 [.slice bo8 d.delta.1 bcap8] [.int .i64 d.kind,.int .i64 d.seq,.string d.name,.int .i64 d.length,.int .i64 d.group,.int .i64 d.row,.slice bo6 d.rows.1 bcap6,.slice bo7 d.data.1 bcap7,.slice bo8 d.delta.1 bcap8] _ rfl⟩
theorem info_RecS:(Tryz.prog.info? 93).map (fun i => (i.zero.map (·.cells),i.size,i.bytes)) = some (some #[.int .i64 0,.int .i64 0,.string ByteArray.empty,.int .i64 0,.int .i64 0,.int .i64 0,.slice none 0 0,.slice none 0 0,.slice none 0 0],9,128):=by kernel_rfl
set_option maxHeartbeats 4000000 in
theorem toRecS_is:ToS (layRec.slice 93) (szSl szRecD) 96:=fun v d hi w h hhi hn => by
  obtain ⟨n,x⟩:=d;obtain ⟨ao,cap,hv,hm,hc⟩:=h
  cases hv
  have hn1:=szSl_n hn;have hn2:∀ i,i < n → szRecD (x i) ≤ 1048576:=fun i hi => szSl_at hn hi
  simp only at hn1 hm hc
  clear hn
  go_enter Tryz.func96,Tryz.ntmps96
  go_wp2_with (at_make;refine wp_makeT layRec [.int .i64 0,.int .i64 0,.string ByteArray.empty,.int .i64 0,.int .i64 0,.int .i64 0,.slice none 0 0,.slice none 0 0,.slice none 0 0] _ 93 128 (by decide) rfl Tryz.underlying88 info_RecS x (fun _ => []) _ rfl _ _ rfl _ _ n rfl rfl rfl rfl (by omega) (by omega) ?_;intro w1 sp1 hb1)
  go_loopw [4] (fun i wr => ∃ k:Nat,k ≤ n ∧ i = .int .i64 k ∧ ∃ ce Ls,SlP layRec 93 wr w.heap.size w.heap.size n n k x ce Ls ∧ Below w.heap.size w wr) (fun i _ => n - (intOf i).toNat)
  case atStart => exact ⟨0,Nat.zero_le _,rfl,_,_,sp1,hb1⟩
  case round =>
    clear sp1 hb1;obtain ⟨k,hk,rfl,ce,Ls,sp,hb⟩:=hrel
    by_cases hlt:k < n
    · obtain ⟨b,off,rfl,hblt,hel⟩:=hc (by omega)
      obtain ⟨ck,hrk,hcell⟩:=elem_rd (t:=0) hel hb hhi hblt hlt;obtain ⟨ao6,cap6,ao7,cap7,ao8,cap8,rfl,-⟩:=Rec_rd hrk;have c0:wr.cell? ⟨b,off + k * 9,none⟩ = some (.int .i64 (x k).kind):=hcell 0 (by decide);have c1:wr.cell? ⟨b,off + k * 9 + 1,none⟩ = some (.int .i64 (x k).seq):=hcell 1 (by decide);have c2:wr.cell? ⟨b,off + k * 9 + 2,none⟩ = some (.string (x k).name):=hcell 2 (by decide);have c3:wr.cell? ⟨b,off + k * 9 + 3,none⟩ = some (.int .i64 (x k).length):=hcell 3 (by decide);have c4:wr.cell? ⟨b,off + k * 9 + 4,none⟩ = some (.int .i64 (x k).group):=hcell 4 (by decide);have c5:wr.cell? ⟨b,off + k * 9 + 5,none⟩ = some (.int .i64 (x k).row):=hcell 5 (by decide);have c6:wr.cell? ⟨b,off + k * 9 + 6,none⟩ = some (.slice ao6 (x k).rows.1 cap6):=hcell 6 (by decide);have c7:wr.cell? ⟨b,off + k * 9 + 7,none⟩ = some (.slice ao7 (x k).data.1 cap7):=hcell 7 (by decide);have c8:wr.cell? ⟨b,off + k * 9 + 8,none⟩ = some (.slice ao8 (x k).delta.1 cap8):=hcell 8 (by decide);clear hc hel hcell
      go_wp2_with fail
      refine (toRec_is _ (x k) hi wr hrk (Nat.le_trans hhi hb.size) (hn2 k hlt)).mono ?_;rintro e w2 ⟨cs',rfl,o2,hb2⟩;obtain ⟨bao6,bcap6,bao7,bcap7,bao8,bcap8,rfl⟩:=Rec_cells o2;obtain ⟨z0,s0⟩:=sp.some hb2 hlt (show 0 < layRec.sz by decide);have s0:w2.cell? ⟨w.heap.size,k * 9,none⟩ = some z0:=s0;have sf0:=(sp.below hb2).frozen (k * 9);obtain ⟨z1,s1⟩:=sp.some hb2 hlt (show 1 < layRec.sz by decide);have s1:w2.cell? ⟨w.heap.size,k * 9 + 1,none⟩ = some z1:=s1;have sf1:=(sp.below hb2).frozen (k * 9 + 1);obtain ⟨z2,s2⟩:=sp.some hb2 hlt (show 2 < layRec.sz by decide);have s2:w2.cell? ⟨w.heap.size,k * 9 + 2,none⟩ = some z2:=s2;have sf2:=(sp.below hb2).frozen (k * 9 + 2);obtain ⟨z3,s3⟩:=sp.some hb2 hlt (show 3 < layRec.sz by decide);have s3:w2.cell? ⟨w.heap.size,k * 9 + 3,none⟩ = some z3:=s3;have sf3:=(sp.below hb2).frozen (k * 9 + 3);obtain ⟨z4,s4⟩:=sp.some hb2 hlt (show 4 < layRec.sz by decide);have s4:w2.cell? ⟨w.heap.size,k * 9 + 4,none⟩ = some z4:=s4;have sf4:=(sp.below hb2).frozen (k * 9 + 4);obtain ⟨z5,s5⟩:=sp.some hb2 hlt (show 5 < layRec.sz by decide);have s5:w2.cell? ⟨w.heap.size,k * 9 + 5,none⟩ = some z5:=s5;have sf5:=(sp.below hb2).frozen (k * 9 + 5);obtain ⟨z6,s6⟩:=sp.some hb2 hlt (show 6 < layRec.sz by decide);have s6:w2.cell? ⟨w.heap.size,k * 9 + 6,none⟩ = some z6:=s6;have sf6:=(sp.below hb2).frozen (k * 9 + 6);obtain ⟨z7,s7⟩:=sp.some hb2 hlt (show 7 < layRec.sz by decide);have s7:w2.cell? ⟨w.heap.size,k * 9 + 7,none⟩ = some z7:=s7;have sf7:=(sp.below hb2).frozen (k * 9 + 7);obtain ⟨z8,s8⟩:=sp.some hb2 hlt (show 8 < layRec.sz by decide);have s8:w2.cell? ⟨w.heap.size,k * 9 + 8,none⟩ = some z8:=s8;have sf8:=(sp.below hb2).frozen (k * 9 + 8);have N:=sp.next hb2 hlt o2 hb.size;have N2:Below w.heap.size w (stN w2 w.heap.size (k * layRec.sz) [.int .i64 (x k).kind,.int .i64 (x k).seq,.string (x k).name,.int .i64 (x k).length,.int .i64 (x k).group,.int .i64 (x k).row,.slice bao6 (x k).rows.1 bcap6,.slice bao7 (x k).data.1 bcap7,.slice bao8 (x k).delta.1 bcap8]):=(hb.trans (hb2.mono hb.size)).trans (stN_below (Nat.le_refl _) _ _);clear o2 hb2 sp hb
      go_wp2_with fail
      go_roundw
      case rel =>
        obtain ⟨ce',Ls',N⟩:=N;exact ⟨k + 1,by omega,by go_num,ce',Ls',N,N2⟩
      case measure => simp [intOf];omega
    · obtain rfl:k = n:=by omega
      go_wp2;go_ret;exact ⟨_,rfl,sp.done (Nat.le_refl _),hb⟩
set_option maxHeartbeats 8000000 in
set_option maxRecDepth 20000 in
theorem toTape_is:ToV layTape szTapeD 61:=fun cs d hi w r hhi hn => by
  obtain ⟨ao1,cap1,rfl,h1⟩:=Tape_rd r;clear r;unfold szTapeD at hn;have R1:Hid ((layRec.slice 93).rd w hi d.recs [.slice ao1 d.recs.1 cap1]):=h1;clear h1
  go_enter Tryz.func61,Tryz.ntmps61
  go_wp2_with fail
  have T0:=three_newb w #[.bool d.wiped,.slice ao1 d.recs.1 cap1] #[.bool false,.slice none 0 0] #[.bool d.wiped,.slice none 0 0] 85 90 90;refine (toRecS_is _ d.recs hi _ ((layRec.slice 93).rd_below R1.out T0.bel hhi) (Nat.le_trans hhi T0.bel.size) (by omega)).mono ?_;rintro e w1 ⟨v1,rfl,o1,b1⟩;have L1:=T0.lt;obtain ⟨bo1,bcap1,hv⟩:=sl_formT o1;obtain rfl:=one_eq hv;clear hv;have T1:Three w w1 #[.bool d.wiped,.slice ao1 d.recs.1 cap1] #[.bool false,.slice none 0 0] #[.bool d.wiped,.slice none 0 0] 85 90 90:=T0.call b1;have O1:Hid (OwnT (layRec.slice 93) w1 (w.heap.size + 1 + 1 + 1) (w1.heap.size) d.recs [.slice bo1 d.recs.1 bcap1]):=o1.weaken (by simp <;> omega) (Nat.le_refl _);clear o1;have LT1:w.heap.size + 1 + 1 + 1 ≤ w1.heap.size:=T1.lt;have y1_0:w1.cell? ⟨w.heap.size + 1 + 1,0,none⟩ = some (.bool d.wiped):=T1.b3.cell 0;have y1_1:w1.cell? ⟨w.heap.size + 1 + 1,1,none⟩ = some (.slice none 0 0):=T1.b3.cell 1;have yf1_1:w1.frozen? ⟨w.heap.size + 1 + 1,1,none⟩ = false:=T1.b3.frozen 1;have z1_0:w1.cell? ⟨w.heap.size + 1,0,none⟩ = some (.bool false):=T1.b2.cell 0;have zf1_0:w1.frozen? ⟨w.heap.size + 1,0,none⟩ = false:=T1.b2.frozen 0;have z1_1:w1.cell? ⟨w.heap.size + 1,1,none⟩ = some (.slice none 0 0):=T1.b2.cell 1;have zf1_1:w1.frozen? ⟨w.heap.size + 1,1,none⟩ = false:=T1.b2.frozen 1;have Bq:Hid (Below w.heap.size w w1):=T1.bel;clear T1 b1;go_wp2;refine bodyPost_ret (v:=.agg #[.bool d.wiped,.slice bo1 d.recs.1 bcap1]) (by simp [results,Tryz.results61,go_sem,y1_0,z1_0,y1_1,z1_1]) rfl ?_;have F:OwnT layTape w1 (w.heap.size + 1 + 1 + 1) w1.heap.size d ([.bool d.wiped] ++ [.slice bo1 d.recs.1 bcap1]):=OwnT.conv (OwnT.pre (A:=layB) (a:=d.wiped) (c:=[.bool d.wiped]) ⟨rfl,trivial,rfl⟩ (O1.out));exact ⟨[.bool d.wiped,.slice bo1 d.recs.1 bcap1],rfl,OwnT.fin F 1 0 [.slice bo1 d.recs.1 bcap1] [.bool d.wiped,.slice bo1 d.recs.1 bcap1] _ rfl,below_fin Bq.out 1 0 [.slice bo1 d.recs.1 bcap1] [.bool d.wiped,.slice bo1 d.recs.1 bcap1] _ rfl⟩
theorem info_TapeS:(Tryz.prog.info? 90).map (fun i => (i.zero.map (·.cells),i.size,i.bytes)) = some (some #[.bool false,.slice none 0 0],2,32):=by kernel_rfl
set_option maxHeartbeats 4000000 in
theorem toTapeS_is:ToS (layTape.slice 90) (szSl szTapeD) 32:=fun v d hi w h hhi hn => by
  obtain ⟨n,x⟩:=d;obtain ⟨ao,cap,hv,hm,hc⟩:=h
  cases hv
  have hn1:=szSl_n hn;have hn2:∀ i,i < n → szTapeD (x i) ≤ 1048576:=fun i hi => szSl_at hn hi
  simp only at hn1 hm hc
  clear hn
  go_enter Tryz.func32,Tryz.ntmps32
  go_wp2_with (at_make;refine wp_makeT layTape [.bool false,.slice none 0 0] _ 90 32 (by decide) rfl Tryz.underlying35 info_TapeS x (fun _ => []) _ rfl _ _ rfl _ _ n rfl rfl rfl rfl (by omega) (by omega) ?_;intro w1 sp1 hb1)
  go_loopw [4] (fun i wr => ∃ k:Nat,k ≤ n ∧ i = .int .i64 k ∧ ∃ ce Ls,SlP layTape 90 wr w.heap.size w.heap.size n n k x ce Ls ∧ Below w.heap.size w wr) (fun i _ => n - (intOf i).toNat)
  case atStart => exact ⟨0,Nat.zero_le _,rfl,_,_,sp1,hb1⟩
  case round =>
    clear sp1 hb1;obtain ⟨k,hk,rfl,ce,Ls,sp,hb⟩:=hrel
    by_cases hlt:k < n
    · obtain ⟨b,off,rfl,hblt,hel⟩:=hc (by omega)
      obtain ⟨ck,hrk,hcell⟩:=elem_rd (t:=0) hel hb hhi hblt hlt;obtain ⟨ao1,cap1,rfl,-⟩:=Tape_rd hrk;have c0:wr.cell? ⟨b,off + k * 2,none⟩ = some (.bool (x k).wiped):=hcell 0 (by decide);have c1:wr.cell? ⟨b,off + k * 2 + 1,none⟩ = some (.slice ao1 (x k).recs.1 cap1):=hcell 1 (by decide);clear hc hel hcell
      go_wp2_with fail
      refine (toTape_is _ (x k) hi wr hrk (Nat.le_trans hhi hb.size) (hn2 k hlt)).mono ?_;rintro e w2 ⟨cs',rfl,o2,hb2⟩;obtain ⟨bao1,bcap1,rfl⟩:=Tape_cells o2;obtain ⟨z0,s0⟩:=sp.some hb2 hlt (show 0 < layTape.sz by decide);have s0:w2.cell? ⟨w.heap.size,k * 2,none⟩ = some z0:=s0;have sf0:=(sp.below hb2).frozen (k * 2);obtain ⟨z1,s1⟩:=sp.some hb2 hlt (show 1 < layTape.sz by decide);have s1:w2.cell? ⟨w.heap.size,k * 2 + 1,none⟩ = some z1:=s1;have sf1:=(sp.below hb2).frozen (k * 2 + 1);have N:=sp.next hb2 hlt o2 hb.size;have N2:Below w.heap.size w (stN w2 w.heap.size (k * layTape.sz) [.bool (x k).wiped,.slice bao1 (x k).recs.1 bcap1]):=(hb.trans (hb2.mono hb.size)).trans (stN_below (Nat.le_refl _) _ _);clear o2 hb2 sp hb
      go_wp2_with fail
      go_roundw
      case rel =>
        obtain ⟨ce',Ls',N⟩:=N;exact ⟨k + 1,by omega,by go_num,ce',Ls',N,N2⟩
      case measure => simp [intOf];omega
    · obtain rfl:k = n:=by omega
      go_wp2;go_ret;exact ⟨_,rfl,sp.done (Nat.le_refl _),hb⟩
end Go.Proofs.YtbjblbbbafiepaaGreat
namespace Go.Proofs.YtbjblbbbafiepaaGreat
open Go.RowKit F256
set_option maxHeartbeats 8000000 in
set_option maxRecDepth 20000 in
theorem toWorld_is:ToV layWorld szWorldD 8:=fun cs d hi w r hhi hn => by
  obtain ⟨ao1,cap1,ao2,cap2,ao3,cap3,rfl,h1,h2,h3,k0,k4,k5⟩:=World_rd r;clear r;unfold szWorldD at hn;have R1:Hid (((layDrive.slice 98).slice 95).rd w hi d.groups [.slice ao1 d.groups.1 cap1]):=h1;have R2:Hid (layInts.rd w hi d.on [.slice ao2 d.on.1 cap2]):=h2;have R3:Hid ((layTape.slice 90).rd w hi d.tapes [.slice ao3 d.tapes.1 cap3]):=h3;clear h1 h2 h3;have Q0:Hid ((∀ i,-9223372036854775808 ≤ d.shape i ∧ d.shape i ≤ 9223372036854775807)):=k0;have Q4:Hid ((-9223372036854775808 ≤ d.writes ∧ d.writes ≤ 9223372036854775807)):=k4;have Q5:Hid ((-9223372036854775808 ≤ d.stop ∧ d.stop ≤ 9223372036854775807)):=k5;clear k0 k4 k5
  go_enter Tryz.func8,Tryz.ntmps8
  go_wp2_with fail
  have T0:=three_newb w #[.int .i64 (d.shape 0),.int .i64 (d.shape 1),.int .i64 (d.shape 2),.int .i64 (d.shape 3),.int .i64 (d.shape 4),.int .i64 (d.shape 5),.int .i64 (d.shape 6),.int .i64 (d.shape 7),.int .i64 (d.shape 8),.slice ao1 d.groups.1 cap1,.slice ao2 d.on.1 cap2,.slice ao3 d.tapes.1 cap3,.int .i64 d.writes,.int .i64 d.stop,.bool d.down] #[.int .i64 0,.int .i64 0,.int .i64 0,.int .i64 0,.int .i64 0,.int .i64 0,.int .i64 0,.int .i64 0,.int .i64 0,.slice none 0 0,.slice none 0 0,.slice none 0 0,.int .i64 0,.int .i64 0,.bool false] #[.int .i64 0,.int .i64 0,.int .i64 0,.int .i64 0,.int .i64 0,.int .i64 0,.int .i64 0,.int .i64 0,.int .i64 0,.slice none 0 0,.slice none 0 0,.slice none 0 0,.int .i64 0,.int .i64 0,.bool false] 28 37 37;refine (toShape_any d.shape _).mono ?_;rintro e w1 ⟨rfl,b1⟩;unfold shapeV;have L1:=T0.lt;have T1:Three w w1 #[.int .i64 (d.shape 0),.int .i64 (d.shape 1),.int .i64 (d.shape 2),.int .i64 (d.shape 3),.int .i64 (d.shape 4),.int .i64 (d.shape 5),.int .i64 (d.shape 6),.int .i64 (d.shape 7),.int .i64 (d.shape 8),.slice ao1 d.groups.1 cap1,.slice ao2 d.on.1 cap2,.slice ao3 d.tapes.1 cap3,.int .i64 d.writes,.int .i64 d.stop,.bool d.down] #[.int .i64 0,.int .i64 0,.int .i64 0,.int .i64 0,.int .i64 0,.int .i64 0,.int .i64 0,.int .i64 0,.int .i64 0,.slice none 0 0,.slice none 0 0,.slice none 0 0,.int .i64 0,.int .i64 0,.bool false] #[.int .i64 0,.int .i64 0,.int .i64 0,.int .i64 0,.int .i64 0,.int .i64 0,.int .i64 0,.int .i64 0,.int .i64 0,.slice none 0 0,.slice none 0 0,.slice none 0 0,.int .i64 0,.int .i64 0,.bool false] 28 37 37:=T0.call b1;have LT1:w.heap.size + 1 + 1 + 1 ≤ w1.heap.size:=T1.lt;have x1_9:w1.cell? ⟨w.heap.size,9,none⟩ = some (.slice ao1 d.groups.1 cap1):=T1.b1.cell 9;have y1_0:w1.cell? ⟨w.heap.size + 1 + 1,0,none⟩ = some (.int .i64 0):=T1.b3.cell 0;have y1_1:w1.cell? ⟨w.heap.size + 1 + 1,1,none⟩ = some (.int .i64 0):=T1.b3.cell 1;have y1_2:w1.cell? ⟨w.heap.size + 1 + 1,2,none⟩ = some (.int .i64 0):=T1.b3.cell 2;have y1_3:w1.cell? ⟨w.heap.size + 1 + 1,3,none⟩ = some (.int .i64 0):=T1.b3.cell 3;have y1_4:w1.cell? ⟨w.heap.size + 1 + 1,4,none⟩ = some (.int .i64 0):=T1.b3.cell 4;have y1_5:w1.cell? ⟨w.heap.size + 1 + 1,5,none⟩ = some (.int .i64 0):=T1.b3.cell 5;have y1_6:w1.cell? ⟨w.heap.size + 1 + 1,6,none⟩ = some (.int .i64 0):=T1.b3.cell 6;have y1_7:w1.cell? ⟨w.heap.size + 1 + 1,7,none⟩ = some (.int .i64 0):=T1.b3.cell 7;have y1_8:w1.cell? ⟨w.heap.size + 1 + 1,8,none⟩ = some (.int .i64 0):=T1.b3.cell 8;have yf1_0:w1.frozen? ⟨w.heap.size + 1 + 1,0,none⟩ = false:=T1.b3.frozen 0;have yf1_1:w1.frozen? ⟨w.heap.size + 1 + 1,1,none⟩ = false:=T1.b3.frozen 1;have yf1_2:w1.frozen? ⟨w.heap.size + 1 + 1,2,none⟩ = false:=T1.b3.frozen 2;have yf1_3:w1.frozen? ⟨w.heap.size + 1 + 1,3,none⟩ = false:=T1.b3.frozen 3;have yf1_4:w1.frozen? ⟨w.heap.size + 1 + 1,4,none⟩ = false:=T1.b3.frozen 4
  have yf1_5:w1.frozen? ⟨w.heap.size + 1 + 1,5,none⟩ = false:=T1.b3.frozen 5;have yf1_6:w1.frozen? ⟨w.heap.size + 1 + 1,6,none⟩ = false:=T1.b3.frozen 6;have yf1_7:w1.frozen? ⟨w.heap.size + 1 + 1,7,none⟩ = false:=T1.b3.frozen 7;have yf1_8:w1.frozen? ⟨w.heap.size + 1 + 1,8,none⟩ = false:=T1.b3.frozen 8;have V1:Three w (((((((((w1.setCell ⟨w.heap.size + 1 + 1,0,none⟩ (.int .i64 (d.shape 0))).setCell ⟨w.heap.size + 1 + 1,1,none⟩ (.int .i64 (d.shape 1))).setCell ⟨w.heap.size + 1 + 1,2,none⟩ (.int .i64 (d.shape 2))).setCell ⟨w.heap.size + 1 + 1,3,none⟩ (.int .i64 (d.shape 3))).setCell ⟨w.heap.size + 1 + 1,4,none⟩ (.int .i64 (d.shape 4))).setCell ⟨w.heap.size + 1 + 1,5,none⟩ (.int .i64 (d.shape 5))).setCell ⟨w.heap.size + 1 + 1,6,none⟩ (.int .i64 (d.shape 6))).setCell ⟨w.heap.size + 1 + 1,7,none⟩ (.int .i64 (d.shape 7))).setCell ⟨w.heap.size + 1 + 1,8,none⟩ (.int .i64 (d.shape 8))) #[.int .i64 (d.shape 0),.int .i64 (d.shape 1),.int .i64 (d.shape 2),.int .i64 (d.shape 3),.int .i64 (d.shape 4),.int .i64 (d.shape 5),.int .i64 (d.shape 6),.int .i64 (d.shape 7),.int .i64 (d.shape 8),.slice ao1 d.groups.1 cap1,.slice ao2 d.on.1 cap2,.slice ao3 d.tapes.1 cap3,.int .i64 d.writes,.int .i64 d.stop,.bool d.down] #[.int .i64 0,.int .i64 0,.int .i64 0,.int .i64 0,.int .i64 0,.int .i64 0,.int .i64 0,.int .i64 0,.int .i64 0,.slice none 0 0,.slice none 0 0,.slice none 0 0,.int .i64 0,.int .i64 0,.bool false] #[.int .i64 (d.shape 0),.int .i64 (d.shape 1),.int .i64 (d.shape 2),.int .i64 (d.shape 3),.int .i64 (d.shape 4),.int .i64 (d.shape 5),.int .i64 (d.shape 6),.int .i64 (d.shape 7),.int .i64 (d.shape 8),.slice none 0 0,.slice none 0 0,.slice none 0 0,.int .i64 0,.int .i64 0,.bool false] 28 37 37:=T1.st3 0 [.int .i64 (d.shape 0),.int .i64 (d.shape 1),.int .i64 (d.shape 2),.int .i64 (d.shape 3),.int .i64 (d.shape 4),.int .i64 (d.shape 5),.int .i64 (d.shape 6),.int .i64 (d.shape 7),.int .i64 (d.shape 8)] (c3':=[.int .i64 (d.shape 0),.int .i64 (d.shape 1),.int .i64 (d.shape 2),.int .i64 (d.shape 3),.int .i64 (d.shape 4),.int .i64 (d.shape 5),.int .i64 (d.shape 6),.int .i64 (d.shape 7),.int .i64 (d.shape 8),.slice none 0 0,.slice none 0 0,.slice none 0 0,.int .i64 0,.int .i64 0,.bool false]) rfl;clear T1 b1
  go_wp2_with fail
  refine (toDriveSS_is _ d.groups hi _ (((layDrive.slice 98).slice 95).rd_below R1.out V1.bel hhi) (Nat.le_trans hhi V1.bel.size) (by omega)).mono ?_;rintro e w2 ⟨v2,rfl,o2,b2⟩;have L2:=V1.lt;obtain ⟨bo1,bcap1,hv⟩:=sl_formT o2;obtain rfl:=one_eq hv;clear hv;have T2:Three w w2 #[.int .i64 (d.shape 0),.int .i64 (d.shape 1),.int .i64 (d.shape 2),.int .i64 (d.shape 3),.int .i64 (d.shape 4),.int .i64 (d.shape 5),.int .i64 (d.shape 6),.int .i64 (d.shape 7),.int .i64 (d.shape 8),.slice ao1 d.groups.1 cap1,.slice ao2 d.on.1 cap2,.slice ao3 d.tapes.1 cap3,.int .i64 d.writes,.int .i64 d.stop,.bool d.down] #[.int .i64 0,.int .i64 0,.int .i64 0,.int .i64 0,.int .i64 0,.int .i64 0,.int .i64 0,.int .i64 0,.int .i64 0,.slice none 0 0,.slice none 0 0,.slice none 0 0,.int .i64 0,.int .i64 0,.bool false] #[.int .i64 (d.shape 0),.int .i64 (d.shape 1),.int .i64 (d.shape 2),.int .i64 (d.shape 3),.int .i64 (d.shape 4),.int .i64 (d.shape 5),.int .i64 (d.shape 6),.int .i64 (d.shape 7),.int .i64 (d.shape 8),.slice none 0 0,.slice none 0 0,.slice none 0 0,.int .i64 0,.int .i64 0,.bool false] 28 37 37:=V1.call b2;have O1:Hid (OwnT ((layDrive.slice 98).slice 95) w2 (w.heap.size + 1 + 1 + 1) (w2.heap.size) d.groups [.slice bo1 d.groups.1 bcap1]):=o2.weaken (by simp <;> omega) (Nat.le_refl _);clear o2;have LT2:w.heap.size + 1 + 1 + 1 ≤ w2.heap.size:=T2.lt
  have S2:w1.heap.size ≤ w2.heap.size:=by
    have:=b2.size
    simpa using this
  have x2_10:w2.cell? ⟨w.heap.size,10,none⟩ = some (.slice ao2 d.on.1 cap2):=T2.b1.cell 10;have y2_9:w2.cell? ⟨w.heap.size + 1 + 1,9,none⟩ = some (.slice none 0 0):=T2.b3.cell 9;have yf2_9:w2.frozen? ⟨w.heap.size + 1 + 1,9,none⟩ = false:=T2.b3.frozen 9;have V2:Three w (w2.setCell ⟨w.heap.size + 1 + 1,9,none⟩ (.slice bo1 d.groups.1 bcap1)) #[.int .i64 (d.shape 0),.int .i64 (d.shape 1),.int .i64 (d.shape 2),.int .i64 (d.shape 3),.int .i64 (d.shape 4),.int .i64 (d.shape 5),.int .i64 (d.shape 6),.int .i64 (d.shape 7),.int .i64 (d.shape 8),.slice ao1 d.groups.1 cap1,.slice ao2 d.on.1 cap2,.slice ao3 d.tapes.1 cap3,.int .i64 d.writes,.int .i64 d.stop,.bool d.down] #[.int .i64 0,.int .i64 0,.int .i64 0,.int .i64 0,.int .i64 0,.int .i64 0,.int .i64 0,.int .i64 0,.int .i64 0,.slice none 0 0,.slice none 0 0,.slice none 0 0,.int .i64 0,.int .i64 0,.bool false] #[.int .i64 (d.shape 0),.int .i64 (d.shape 1),.int .i64 (d.shape 2),.int .i64 (d.shape 3),.int .i64 (d.shape 4),.int .i64 (d.shape 5),.int .i64 (d.shape 6),.int .i64 (d.shape 7),.int .i64 (d.shape 8),.slice bo1 d.groups.1 bcap1,.slice none 0 0,.slice none 0 0,.int .i64 0,.int .i64 0,.bool false] 28 37 37:=T2.st3 9 [.slice bo1 d.groups.1 bcap1] (c3':=[.int .i64 (d.shape 0),.int .i64 (d.shape 1),.int .i64 (d.shape 2),.int .i64 (d.shape 3),.int .i64 (d.shape 4),.int .i64 (d.shape 5),.int .i64 (d.shape 6),.int .i64 (d.shape 7),.int .i64 (d.shape 8),.slice bo1 d.groups.1 bcap1,.slice none 0 0,.slice none 0 0,.int .i64 0,.int .i64 0,.bool false]) rfl;clear T2 b2
  go_wp2_with fail
  refine (toInts_is _ d.on hi _ (layInts.rd_below R2.out V2.bel hhi) (Nat.le_trans hhi V2.bel.size) (by omega)).mono ?_;rintro e w3 ⟨v3,rfl,o3,b3⟩;have L3:=V2.lt;obtain ⟨bo2,bcap2,hv⟩:=ints_formT o3;obtain rfl:=one_eq hv;clear hv;have T3:Three w w3 #[.int .i64 (d.shape 0),.int .i64 (d.shape 1),.int .i64 (d.shape 2),.int .i64 (d.shape 3),.int .i64 (d.shape 4),.int .i64 (d.shape 5),.int .i64 (d.shape 6),.int .i64 (d.shape 7),.int .i64 (d.shape 8),.slice ao1 d.groups.1 cap1,.slice ao2 d.on.1 cap2,.slice ao3 d.tapes.1 cap3,.int .i64 d.writes,.int .i64 d.stop,.bool d.down] #[.int .i64 0,.int .i64 0,.int .i64 0,.int .i64 0,.int .i64 0,.int .i64 0,.int .i64 0,.int .i64 0,.int .i64 0,.slice none 0 0,.slice none 0 0,.slice none 0 0,.int .i64 0,.int .i64 0,.bool false] #[.int .i64 (d.shape 0),.int .i64 (d.shape 1),.int .i64 (d.shape 2),.int .i64 (d.shape 3),.int .i64 (d.shape 4),.int .i64 (d.shape 5),.int .i64 (d.shape 6),.int .i64 (d.shape 7),.int .i64 (d.shape 8),.slice bo1 d.groups.1 bcap1,.slice none 0 0,.slice none 0 0,.int .i64 0,.int .i64 0,.bool false] 28 37 37:=V2.call b3;have O1x:OwnT ((layDrive.slice 98).slice 95) w3 (w.heap.size + 1 + 1 + 1) (w2.heap.size) d.groups [.slice bo1 d.groups.1 bcap1]:=((O1.out).set (show w.heap.size + 1 + 1 < _ by omega)).call b3;clear O1;have O1:Hid (OwnT ((layDrive.slice 98).slice 95) w3 (w.heap.size + 1 + 1 + 1) (w2.heap.size) d.groups [.slice bo1 d.groups.1 bcap1]):=O1x;clear O1x;have O2:Hid (OwnT layInts w3 (w2.heap.size) (w3.heap.size) d.on [.slice bo2 d.on.1 bcap2]):=o3.weaken (by simp <;> omega) (Nat.le_refl _);clear o3;have LT3:w.heap.size + 1 + 1 + 1 ≤ w3.heap.size:=T3.lt
  have S3:w2.heap.size ≤ w3.heap.size:=by
    have:=b3.size
    simpa using this
  have x3_11:w3.cell? ⟨w.heap.size,11,none⟩ = some (.slice ao3 d.tapes.1 cap3):=T3.b1.cell 11;have y3_10:w3.cell? ⟨w.heap.size + 1 + 1,10,none⟩ = some (.slice none 0 0):=T3.b3.cell 10;have yf3_10:w3.frozen? ⟨w.heap.size + 1 + 1,10,none⟩ = false:=T3.b3.frozen 10;have V3:Three w (w3.setCell ⟨w.heap.size + 1 + 1,10,none⟩ (.slice bo2 d.on.1 bcap2)) #[.int .i64 (d.shape 0),.int .i64 (d.shape 1),.int .i64 (d.shape 2),.int .i64 (d.shape 3),.int .i64 (d.shape 4),.int .i64 (d.shape 5),.int .i64 (d.shape 6),.int .i64 (d.shape 7),.int .i64 (d.shape 8),.slice ao1 d.groups.1 cap1,.slice ao2 d.on.1 cap2,.slice ao3 d.tapes.1 cap3,.int .i64 d.writes,.int .i64 d.stop,.bool d.down] #[.int .i64 0,.int .i64 0,.int .i64 0,.int .i64 0,.int .i64 0,.int .i64 0,.int .i64 0,.int .i64 0,.int .i64 0,.slice none 0 0,.slice none 0 0,.slice none 0 0,.int .i64 0,.int .i64 0,.bool false] #[.int .i64 (d.shape 0),.int .i64 (d.shape 1),.int .i64 (d.shape 2),.int .i64 (d.shape 3),.int .i64 (d.shape 4),.int .i64 (d.shape 5),.int .i64 (d.shape 6),.int .i64 (d.shape 7),.int .i64 (d.shape 8),.slice bo1 d.groups.1 bcap1,.slice bo2 d.on.1 bcap2,.slice none 0 0,.int .i64 0,.int .i64 0,.bool false] 28 37 37:=T3.st3 10 [.slice bo2 d.on.1 bcap2] (c3':=[.int .i64 (d.shape 0),.int .i64 (d.shape 1),.int .i64 (d.shape 2),.int .i64 (d.shape 3),.int .i64 (d.shape 4),.int .i64 (d.shape 5),.int .i64 (d.shape 6),.int .i64 (d.shape 7),.int .i64 (d.shape 8),.slice bo1 d.groups.1 bcap1,.slice bo2 d.on.1 bcap2,.slice none 0 0,.int .i64 0,.int .i64 0,.bool false]) rfl;clear T3 b3
  go_wp2_with fail
  refine (toTapeS_is _ d.tapes hi _ ((layTape.slice 90).rd_below R3.out V3.bel hhi) (Nat.le_trans hhi V3.bel.size) (by omega)).mono ?_;rintro e w4 ⟨v4,rfl,o4,b4⟩;have L4:=V3.lt;obtain ⟨bo3,bcap3,hv⟩:=sl_formT o4;obtain rfl:=one_eq hv;clear hv;have T4:Three w w4 #[.int .i64 (d.shape 0),.int .i64 (d.shape 1),.int .i64 (d.shape 2),.int .i64 (d.shape 3),.int .i64 (d.shape 4),.int .i64 (d.shape 5),.int .i64 (d.shape 6),.int .i64 (d.shape 7),.int .i64 (d.shape 8),.slice ao1 d.groups.1 cap1,.slice ao2 d.on.1 cap2,.slice ao3 d.tapes.1 cap3,.int .i64 d.writes,.int .i64 d.stop,.bool d.down] #[.int .i64 0,.int .i64 0,.int .i64 0,.int .i64 0,.int .i64 0,.int .i64 0,.int .i64 0,.int .i64 0,.int .i64 0,.slice none 0 0,.slice none 0 0,.slice none 0 0,.int .i64 0,.int .i64 0,.bool false] #[.int .i64 (d.shape 0),.int .i64 (d.shape 1),.int .i64 (d.shape 2),.int .i64 (d.shape 3),.int .i64 (d.shape 4),.int .i64 (d.shape 5),.int .i64 (d.shape 6),.int .i64 (d.shape 7),.int .i64 (d.shape 8),.slice bo1 d.groups.1 bcap1,.slice bo2 d.on.1 bcap2,.slice none 0 0,.int .i64 0,.int .i64 0,.bool false] 28 37 37:=V3.call b4;have O1x:OwnT ((layDrive.slice 98).slice 95) w4 (w.heap.size + 1 + 1 + 1) (w2.heap.size) d.groups [.slice bo1 d.groups.1 bcap1]:=((O1.out).set (show w.heap.size + 1 + 1 < _ by omega)).call b4;clear O1;have O1:Hid (OwnT ((layDrive.slice 98).slice 95) w4 (w.heap.size + 1 + 1 + 1) (w2.heap.size) d.groups [.slice bo1 d.groups.1 bcap1]):=O1x;clear O1x;have O2x:OwnT layInts w4 (w2.heap.size) (w3.heap.size) d.on [.slice bo2 d.on.1 bcap2]:=((O2.out).set (show w.heap.size + 1 + 1 < _ by omega)).call b4;clear O2;have O2:Hid (OwnT layInts w4 (w2.heap.size) (w3.heap.size) d.on [.slice bo2 d.on.1 bcap2]):=O2x;clear O2x;have O3:Hid (OwnT (layTape.slice 90) w4 (w3.heap.size) (w4.heap.size) d.tapes [.slice bo3 d.tapes.1 bcap3]):=o4.weaken (by simp <;> omega) (Nat.le_refl _);clear o4;have LT4:w.heap.size + 1 + 1 + 1 ≤ w4.heap.size:=T4.lt
  have S4:w3.heap.size ≤ w4.heap.size:=by
    have:=b4.size
    simpa using this
  have x4_12:w4.cell? ⟨w.heap.size,12,none⟩ = some (.int .i64 d.writes):=T4.b1.cell 12;have x4_13:w4.cell? ⟨w.heap.size,13,none⟩ = some (.int .i64 d.stop):=T4.b1.cell 13;have x4_14:w4.cell? ⟨w.heap.size,14,none⟩ = some (.bool d.down):=T4.b1.cell 14;have y4_0:w4.cell? ⟨w.heap.size + 1 + 1,0,none⟩ = some (.int .i64 (d.shape 0)):=T4.b3.cell 0;have y4_1:w4.cell? ⟨w.heap.size + 1 + 1,1,none⟩ = some (.int .i64 (d.shape 1)):=T4.b3.cell 1;have y4_2:w4.cell? ⟨w.heap.size + 1 + 1,2,none⟩ = some (.int .i64 (d.shape 2)):=T4.b3.cell 2;have y4_3:w4.cell? ⟨w.heap.size + 1 + 1,3,none⟩ = some (.int .i64 (d.shape 3)):=T4.b3.cell 3;have y4_4:w4.cell? ⟨w.heap.size + 1 + 1,4,none⟩ = some (.int .i64 (d.shape 4)):=T4.b3.cell 4;have y4_5:w4.cell? ⟨w.heap.size + 1 + 1,5,none⟩ = some (.int .i64 (d.shape 5)):=T4.b3.cell 5;have y4_6:w4.cell? ⟨w.heap.size + 1 + 1,6,none⟩ = some (.int .i64 (d.shape 6)):=T4.b3.cell 6;have y4_7:w4.cell? ⟨w.heap.size + 1 + 1,7,none⟩ = some (.int .i64 (d.shape 7)):=T4.b3.cell 7;have y4_8:w4.cell? ⟨w.heap.size + 1 + 1,8,none⟩ = some (.int .i64 (d.shape 8)):=T4.b3.cell 8;have y4_9:w4.cell? ⟨w.heap.size + 1 + 1,9,none⟩ = some (.slice bo1 d.groups.1 bcap1):=T4.b3.cell 9;have y4_10:w4.cell? ⟨w.heap.size + 1 + 1,10,none⟩ = some (.slice bo2 d.on.1 bcap2):=T4.b3.cell 10;have y4_11:w4.cell? ⟨w.heap.size + 1 + 1,11,none⟩ = some (.slice none 0 0):=T4.b3.cell 11;have y4_12:w4.cell? ⟨w.heap.size + 1 + 1,12,none⟩ = some (.int .i64 0):=T4.b3.cell 12;have y4_13:w4.cell? ⟨w.heap.size + 1 + 1,13,none⟩ = some (.int .i64 0):=T4.b3.cell 13;have y4_14:w4.cell? ⟨w.heap.size + 1 + 1,14,none⟩ = some (.bool false):=T4.b3.cell 14;have yf4_11:w4.frozen? ⟨w.heap.size + 1 + 1,11,none⟩ = false:=T4.b3.frozen 11;have yf4_12:w4.frozen? ⟨w.heap.size + 1 + 1,12,none⟩ = false:=T4.b3.frozen 12;have yf4_13:w4.frozen? ⟨w.heap.size + 1 + 1,13,none⟩ = false:=T4.b3.frozen 13;have yf4_14:w4.frozen? ⟨w.heap.size + 1 + 1,14,none⟩ = false:=T4.b3.frozen 14;have z4_0:w4.cell? ⟨w.heap.size + 1,0,none⟩ = some (.int .i64 0):=T4.b2.cell 0;have zf4_0:w4.frozen? ⟨w.heap.size + 1,0,none⟩ = false:=T4.b2.frozen 0;have z4_1:w4.cell? ⟨w.heap.size + 1,1,none⟩ = some (.int .i64 0):=T4.b2.cell 1;have zf4_1:w4.frozen? ⟨w.heap.size + 1,1,none⟩ = false:=T4.b2.frozen 1;have z4_2:w4.cell? ⟨w.heap.size + 1,2,none⟩ = some (.int .i64 0):=T4.b2.cell 2;have zf4_2:w4.frozen? ⟨w.heap.size + 1,2,none⟩ = false:=T4.b2.frozen 2;have z4_3:w4.cell? ⟨w.heap.size + 1,3,none⟩ = some (.int .i64 0):=T4.b2.cell 3;have zf4_3:w4.frozen? ⟨w.heap.size + 1,3,none⟩ = false:=T4.b2.frozen 3;have z4_4:w4.cell? ⟨w.heap.size + 1,4,none⟩ = some (.int .i64 0):=T4.b2.cell 4;have zf4_4:w4.frozen? ⟨w.heap.size + 1,4,none⟩ = false:=T4.b2.frozen 4;have z4_5:w4.cell? ⟨w.heap.size + 1,5,none⟩ = some (.int .i64 0):=T4.b2.cell 5;have zf4_5:w4.frozen? ⟨w.heap.size + 1,5,none⟩ = false:=T4.b2.frozen 5
  have z4_6:w4.cell? ⟨w.heap.size + 1,6,none⟩ = some (.int .i64 0):=T4.b2.cell 6;have zf4_6:w4.frozen? ⟨w.heap.size + 1,6,none⟩ = false:=T4.b2.frozen 6;have z4_7:w4.cell? ⟨w.heap.size + 1,7,none⟩ = some (.int .i64 0):=T4.b2.cell 7;have zf4_7:w4.frozen? ⟨w.heap.size + 1,7,none⟩ = false:=T4.b2.frozen 7;have z4_8:w4.cell? ⟨w.heap.size + 1,8,none⟩ = some (.int .i64 0):=T4.b2.cell 8;have zf4_8:w4.frozen? ⟨w.heap.size + 1,8,none⟩ = false:=T4.b2.frozen 8;have z4_9:w4.cell? ⟨w.heap.size + 1,9,none⟩ = some (.slice none 0 0):=T4.b2.cell 9;have zf4_9:w4.frozen? ⟨w.heap.size + 1,9,none⟩ = false:=T4.b2.frozen 9;have z4_10:w4.cell? ⟨w.heap.size + 1,10,none⟩ = some (.slice none 0 0):=T4.b2.cell 10;have zf4_10:w4.frozen? ⟨w.heap.size + 1,10,none⟩ = false:=T4.b2.frozen 10;have z4_11:w4.cell? ⟨w.heap.size + 1,11,none⟩ = some (.slice none 0 0):=T4.b2.cell 11;have zf4_11:w4.frozen? ⟨w.heap.size + 1,11,none⟩ = false:=T4.b2.frozen 11;have z4_12:w4.cell? ⟨w.heap.size + 1,12,none⟩ = some (.int .i64 0):=T4.b2.cell 12;have zf4_12:w4.frozen? ⟨w.heap.size + 1,12,none⟩ = false:=T4.b2.frozen 12;have z4_13:w4.cell? ⟨w.heap.size + 1,13,none⟩ = some (.int .i64 0):=T4.b2.cell 13;have zf4_13:w4.frozen? ⟨w.heap.size + 1,13,none⟩ = false:=T4.b2.frozen 13;have z4_14:w4.cell? ⟨w.heap.size + 1,14,none⟩ = some (.bool false):=T4.b2.cell 14;have zf4_14:w4.frozen? ⟨w.heap.size + 1,14,none⟩ = false:=T4.b2.frozen 14;have Bq:Hid (Below w.heap.size w w4):=T4.bel;clear T4 b4;go_wp2;refine bodyPost_ret (v:=.agg #[.int .i64 (d.shape 0),.int .i64 (d.shape 1),.int .i64 (d.shape 2),.int .i64 (d.shape 3),.int .i64 (d.shape 4),.int .i64 (d.shape 5),.int .i64 (d.shape 6),.int .i64 (d.shape 7),.int .i64 (d.shape 8),.slice bo1 d.groups.1 bcap1,.slice bo2 d.on.1 bcap2,.slice bo3 d.tapes.1 bcap3,.int .i64 d.writes,.int .i64 d.stop,.bool d.down]) (by simp [results,Tryz.results8,go_sem,y4_0,z4_0,y4_1,z4_1,y4_2,z4_2,y4_3,z4_3,y4_4,z4_4,y4_5,z4_5,y4_6,z4_6,y4_7,z4_7,y4_8,z4_8,y4_9,z4_9,y4_10,z4_10,y4_11,z4_11,y4_12,z4_12,y4_13,z4_13,y4_14,z4_14]) rfl ?_;have F:OwnT layWorld w4 (w.heap.size + 1 + 1 + 1) w4.heap.size d ([.int .i64 (d.shape 0),.int .i64 (d.shape 1),.int .i64 (d.shape 2),.int .i64 (d.shape 3),.int .i64 (d.shape 4),.int .i64 (d.shape 5),.int .i64 (d.shape 6),.int .i64 (d.shape 7),.int .i64 (d.shape 8)] ++ ([.slice bo1 d.groups.1 bcap1] ++ ([.slice bo2 d.on.1 bcap2] ++ ([.slice bo3 d.tapes.1 bcap3] ++ ([.int .i64 d.writes] ++ ([.int .i64 d.stop] ++ [.bool d.down])))))):=OwnT.conv (OwnT.pre (A:=(layNums 9)) (a:=d.shape) (c:=[.int .i64 (d.shape 0),.int .i64 (d.shape 1),.int .i64 (d.shape 2),.int .i64 (d.shape 3),.int .i64 (d.shape 4),.int .i64 (d.shape 5),.int .i64 (d.shape 6),.int .i64 (d.shape 7),.int .i64 (d.shape 8)]) ⟨rfl,Q0.out,rfl⟩ (OwnT.two O1.out (OwnT.two O2.out (OwnT.two O3.out (OwnT.pre (A:=layI) (a:=d.writes) (c:=[.int .i64 d.writes]) ⟨rfl,Q4.out,rfl⟩ (OwnT.pre (A:=layI) (a:=d.stop) (c:=[.int .i64 d.stop]) ⟨rfl,Q5.out,rfl⟩ (OwnT.nil (A:=layB) (a:=d.down) (c:=[.bool d.down]) ⟨rfl,trivial,rfl⟩ w4.heap.size w4.heap.size))) (by omega) (by omega) (by omega)) (by omega) (by omega) (by omega)) (by omega) (by omega) (by omega)))
  exact ⟨[.int .i64 (d.shape 0),.int .i64 (d.shape 1),.int .i64 (d.shape 2),.int .i64 (d.shape 3),.int .i64 (d.shape 4),.int .i64 (d.shape 5),.int .i64 (d.shape 6),.int .i64 (d.shape 7),.int .i64 (d.shape 8),.slice bo1 d.groups.1 bcap1,.slice bo2 d.on.1 bcap2,.slice bo3 d.tapes.1 bcap3,.int .i64 d.writes,.int .i64 d.stop,.bool d.down],rfl,OwnT.fin F 11 0 [.slice bo3 d.tapes.1 bcap3,.int .i64 d.writes,.int .i64 d.stop,.bool d.down] [.int .i64 (d.shape 0),.int .i64 (d.shape 1),.int .i64 (d.shape 2),.int .i64 (d.shape 3),.int .i64 (d.shape 4),.int .i64 (d.shape 5),.int .i64 (d.shape 6),.int .i64 (d.shape 7),.int .i64 (d.shape 8),.slice bo1 d.groups.1 bcap1,.slice bo2 d.on.1 bcap2,.slice bo3 d.tapes.1 bcap3,.int .i64 d.writes,.int .i64 d.stop,.bool d.down] _ rfl,below_fin Bq.out 11 0 [.slice bo3 d.tapes.1 bcap3,.int .i64 d.writes,.int .i64 d.stop,.bool d.down] [.int .i64 (d.shape 0),.int .i64 (d.shape 1),.int .i64 (d.shape 2),.int .i64 (d.shape 3),.int .i64 (d.shape 4),.int .i64 (d.shape 5),.int .i64 (d.shape 6),.int .i64 (d.shape 7),.int .i64 (d.shape 8),.slice bo1 d.groups.1 bcap1,.slice bo2 d.on.1 bcap2,.slice bo3 d.tapes.1 bcap3,.int .i64 d.writes,.int .i64 d.stop,.bool d.down] _ rfl⟩
end Go.Proofs.YtbjblbbbafiepaaGreat
namespace Go.Proofs.YtbjblbbbafiepaaGreat
open Go.RowKit F256
set_option maxHeartbeats 8000000 in
set_option maxRecDepth 20000 in
theorem eqBlock_is:EqV layBlock 142:=fun c1 c2 d h1 h2 w r1 r2 u1 u2 => by
  obtain ⟨ao1,cap1,rfl,g1,-⟩:=Block_rd r1;obtain ⟨bao1,bcap1,rfl,q1,-⟩:=Block_rd r2;clear r1 r2;have G1:Hid (layBytes.rd w h1 d.bytes [.slice ao1 d.bytes.1 cap1]):=g1;have E1:Hid (layBytes.rd w h2 d.bytes [.slice bao1 d.bytes.1 bcap1]):=q1;clear g1 q1
  go_enter Tryz.func142,Tryz.ntmps142
  go_wp2_with fail
  have T0:=two_newb w #[.int .i64 d.stamp,.slice ao1 d.bytes.1 cap1] #[.int .i64 d.stamp,.slice bao1 d.bytes.1 bcap1] 111 111;refine (eqBytes_is _ _ d.bytes h1 h2 _ (layBytes.rd_below G1.out T0.bel u1) (layBytes.rd_below E1.out T0.bel u2) (Nat.le_trans u1 T0.bel.size) (Nat.le_trans u2 T0.bel.size)).mono ?_;rintro e w1 ⟨rfl,b1⟩;have T1:Two w w1 #[.int .i64 d.stamp,.slice ao1 d.bytes.1 cap1] #[.int .i64 d.stamp,.slice bao1 d.bytes.1 bcap1] 111 111:=T0.call b1;clear T0 b1;have B:Hid (Below w.heap.size w w1):=T1.bel;clear T1;go_wp2;go_ret;exact ⟨rfl,B.out⟩
set_option maxHeartbeats 4000000 in
theorem eqBlockS_is:EqS (layBlock.slice 111) 126:=fun v1 v2 d h1 h2 w r1 r2 u1 u2 => by
  obtain ⟨n,x⟩:=d;obtain ⟨ao,cap,hv,hm,hc⟩:=r1
  cases hv
  obtain ⟨ao',cap',hv',hm',hc'⟩:=r2
  cases hv'
  simp only at hm hc hc'
  unfold maxLen at hm;clear hm'
  go_enter Tryz.func126,Tryz.ntmps126
  go_wp2
  go_loopw [5] (fun i wr => ∃ k:Nat,k ≤ n ∧ i = .int .i64 k ∧ Below w.heap.size w wr) (fun i _ => n - (intOf i).toNat)
  case atStart => exact ⟨0,Nat.zero_le _,rfl,Below.refl _ _⟩
  case round =>
    obtain ⟨k,hk,rfl,hb⟩:=hrel
    by_cases hlt:k < n
    · obtain ⟨b,off,rfl,hblt,hel⟩:=hc (by omega)
      obtain ⟨b',off',rfl,hblt',hel'⟩:=hc' (by omega);obtain ⟨ck,hrk,hcell⟩:=elem_rd (t:=0) hel (below_drewN hb 1) u1 hblt hlt;obtain ⟨ck',hrk',hcell'⟩:=elem_rd (t:=0) hel' (below_drewN hb 1) u2 hblt' hlt;obtain ⟨ao1,cap1,rfl,-⟩:=Block_rd hrk;obtain ⟨bao1,bcap1,rfl,-⟩:=Block_rd hrk';have c0:wr.cell? ⟨b,off + k * 2,none⟩ = some (.int .i64 (x k).stamp):=hcell 0 (by decide);have c1:wr.cell? ⟨b,off + k * 2 + 1,none⟩ = some (.slice ao1 (x k).bytes.1 cap1):=hcell 1 (by decide);have e0:wr.cell? ⟨b',off' + k * 2,none⟩ = some (.int .i64 (x k).stamp):=hcell' 0 (by decide);have e1:wr.cell? ⟨b',off' + k * 2 + 1,none⟩ = some (.slice bao1 (x k).bytes.1 bcap1):=hcell' 1 (by decide);have C1:=eqBlock_is _ _ (x k) h1 h2 (wr.drewN 1) hrk hrk' (Nat.le_trans u1 hb.size) (Nat.le_trans u2 hb.size);clear hc hc' hel hel' hcell hcell' hrk hrk';go_wp2
      go_region_with (go_at_call 142;refine C1.mono ?_;rintro ee w2 ⟨rfl,hb2⟩)
      all_goals
        have R':Below w.heap.size w w2:=hb.trans ((below_drewN (Below.refl wr.heap.size wr) 1).trans hb2 |>.mono hb.size);clear hb2;go_wp2
        go_roundw
        case rel => exact ⟨k + 1,by omega,by go_num,R'⟩
        case measure => simp [intOf];omega
    · obtain rfl:k = n:=by omega
      go_wp2;go_ret;exact ⟨rfl,hb⟩
set_option maxHeartbeats 8000000 in
set_option maxRecDepth 20000 in
theorem eqDrive_is:EqV layDrive 102:=fun c1 c2 d h1 h2 w r1 r2 u1 u2 => by
  obtain ⟨ao1,cap1,rfl,g1⟩:=Drive_rd r1;obtain ⟨bao1,bcap1,rfl,q1⟩:=Drive_rd r2;clear r1 r2;have G1:Hid ((layBlock.slice 111).rd w h1 d.blocks [.slice ao1 d.blocks.1 cap1]):=g1;have E1:Hid ((layBlock.slice 111).rd w h2 d.blocks [.slice bao1 d.blocks.1 bcap1]):=q1;clear g1 q1
  go_enter Tryz.func102,Tryz.ntmps102
  go_wp2_with fail
  have T0:=two_newb w #[.bool d.wiped,.slice ao1 d.blocks.1 cap1] #[.bool d.wiped,.slice bao1 d.blocks.1 bcap1] 98 98;refine (eqBlockS_is _ _ d.blocks h1 h2 _ ((layBlock.slice 111).rd_below G1.out T0.bel u1) ((layBlock.slice 111).rd_below E1.out T0.bel u2) (Nat.le_trans u1 T0.bel.size) (Nat.le_trans u2 T0.bel.size)).mono ?_;rintro e w1 ⟨rfl,b1⟩;have T1:Two w w1 #[.bool d.wiped,.slice ao1 d.blocks.1 cap1] #[.bool d.wiped,.slice bao1 d.blocks.1 bcap1] 98 98:=T0.call b1;clear T0 b1;have B:Hid (Below w.heap.size w w1):=T1.bel;clear T1;go_wp2;go_ret;exact ⟨rfl,B.out⟩
set_option maxHeartbeats 4000000 in
theorem eqDriveS_is:EqS (layDrive.slice 98) 70:=fun v1 v2 d h1 h2 w r1 r2 u1 u2 => by
  obtain ⟨n,x⟩:=d;obtain ⟨ao,cap,hv,hm,hc⟩:=r1
  cases hv
  obtain ⟨ao',cap',hv',hm',hc'⟩:=r2
  cases hv'
  simp only at hm hc hc'
  unfold maxLen at hm;clear hm'
  go_enter Tryz.func70,Tryz.ntmps70
  go_wp2
  go_loopw [5] (fun i wr => ∃ k:Nat,k ≤ n ∧ i = .int .i64 k ∧ Below w.heap.size w wr) (fun i _ => n - (intOf i).toNat)
  case atStart => exact ⟨0,Nat.zero_le _,rfl,Below.refl _ _⟩
  case round =>
    obtain ⟨k,hk,rfl,hb⟩:=hrel
    by_cases hlt:k < n
    · obtain ⟨b,off,rfl,hblt,hel⟩:=hc (by omega)
      obtain ⟨b',off',rfl,hblt',hel'⟩:=hc' (by omega);obtain ⟨ck,hrk,hcell⟩:=elem_rd (t:=0) hel (below_drewN hb 1) u1 hblt hlt;obtain ⟨ck',hrk',hcell'⟩:=elem_rd (t:=0) hel' (below_drewN hb 1) u2 hblt' hlt;obtain ⟨ao1,cap1,rfl,-⟩:=Drive_rd hrk;obtain ⟨bao1,bcap1,rfl,-⟩:=Drive_rd hrk';have c0:wr.cell? ⟨b,off + k * 2,none⟩ = some (.bool (x k).wiped):=hcell 0 (by decide);have c1:wr.cell? ⟨b,off + k * 2 + 1,none⟩ = some (.slice ao1 (x k).blocks.1 cap1):=hcell 1 (by decide);have e0:wr.cell? ⟨b',off' + k * 2,none⟩ = some (.bool (x k).wiped):=hcell' 0 (by decide);have e1:wr.cell? ⟨b',off' + k * 2 + 1,none⟩ = some (.slice bao1 (x k).blocks.1 bcap1):=hcell' 1 (by decide);have C1:=eqDrive_is _ _ (x k) h1 h2 (wr.drewN 1) hrk hrk' (Nat.le_trans u1 hb.size) (Nat.le_trans u2 hb.size);clear hc hc' hel hel' hcell hcell' hrk hrk';go_wp2
      go_region_with (go_at_call 102;refine C1.mono ?_;rintro ee w2 ⟨rfl,hb2⟩)
      all_goals
        have R':Below w.heap.size w w2:=hb.trans ((below_drewN (Below.refl wr.heap.size wr) 1).trans hb2 |>.mono hb.size);clear hb2;go_wp2
        go_roundw
        case rel => exact ⟨k + 1,by omega,by go_num,R'⟩
        case measure => simp [intOf];omega
    · obtain rfl:k = n:=by omega
      go_wp2;go_ret;exact ⟨rfl,hb⟩
set_option maxHeartbeats 4000000 in
theorem eqDriveSS_is:EqS ((layDrive.slice 98).slice 95) 38:=fun v1 v2 d h1 h2 w r1 r2 u1 u2 => by
  obtain ⟨n,x⟩:=d;obtain ⟨ao,cap,hv,hm,hc⟩:=r1
  cases hv
  obtain ⟨ao',cap',hv',hm',hc'⟩:=r2
  cases hv'
  simp only at hm hc hc'
  unfold maxLen at hm;clear hm'
  go_enter Tryz.func38,Tryz.ntmps38
  go_wp2
  go_loopw [5] (fun i wr => ∃ k:Nat,k ≤ n ∧ i = .int .i64 k ∧ Below w.heap.size w wr) (fun i _ => n - (intOf i).toNat)
  case atStart => exact ⟨0,Nat.zero_le _,rfl,Below.refl _ _⟩
  case round =>
    obtain ⟨k,hk,rfl,hb⟩:=hrel
    by_cases hlt:k < n
    · obtain ⟨b,off,rfl,hblt,hel⟩:=hc (by omega)
      obtain ⟨b',off',rfl,hblt',hel'⟩:=hc' (by omega);obtain ⟨ck,hrk,hcell⟩:=elem_rd (t:=0) hel (below_drewN hb 1) u1 hblt hlt;obtain ⟨ck',hrk',hcell'⟩:=elem_rd (t:=0) hel' (below_drewN hb 1) u2 hblt' hlt;obtain ⟨ao9,cap9,rfl⟩:=sl_form hrk;obtain ⟨bao9,bcap9,rfl⟩:=sl_form hrk'
      have c0:wr.cell? ⟨b,off + k,none⟩ = some (.slice ao9 (x k).1 cap9):=by
        have h:=hcell 0 (show 0 < 1 by decide);rw [show (layDrive.slice 98).sz = 1 from rfl,Nat.mul_one,Nat.add_zero] at h;exact h
      have e0:wr.cell? ⟨b',off' + k,none⟩ = some (.slice bao9 (x k).1 bcap9):=by
        have h:=hcell' 0 (show 0 < 1 by decide);rw [show (layDrive.slice 98).sz = 1 from rfl,Nat.mul_one,Nat.add_zero] at h;exact h
      have C1:=eqDriveS_is _ _ (x k) h1 h2 (wr.drewN 1) hrk hrk' (Nat.le_trans u1 hb.size) (Nat.le_trans u2 hb.size);clear hc hc' hel hel' hcell hcell' hrk hrk';go_wp2
      go_region_with (go_at_call 70;refine C1.mono ?_;rintro ee w2 ⟨rfl,hb2⟩)
      all_goals
        have R':Below w.heap.size w w2:=hb.trans ((below_drewN (Below.refl wr.heap.size wr) 1).trans hb2 |>.mono hb.size);clear hb2;go_wp2
        go_roundw
        case rel => exact ⟨k + 1,by omega,by go_num,R'⟩
        case measure => simp [intOf];omega
    · obtain rfl:k = n:=by omega
      go_wp2;go_ret;exact ⟨rfl,hb⟩
end Go.Proofs.YtbjblbbbafiepaaGreat
namespace Go.Proofs.YtbjblbbbafiepaaGreat
open Go.RowKit F256
set_option maxHeartbeats 8000000 in
set_option maxRecDepth 20000 in
theorem eqRec_is:EqV layRec 127:=fun c1 c2 d h1 h2 w r1 r2 u1 u2 => by
  obtain ⟨ao6,cap6,ao7,cap7,ao8,cap8,rfl,g6,g7,g8,-⟩:=Rec_rd r1;obtain ⟨bao6,bcap6,bao7,bcap7,bao8,bcap8,rfl,q6,q7,q8,-⟩:=Rec_rd r2;clear r1 r2;have G6:Hid (layInts.rd w h1 d.rows [.slice ao6 d.rows.1 cap6]):=g6;have E6:Hid (layInts.rd w h2 d.rows [.slice bao6 d.rows.1 bcap6]):=q6;have G7:Hid (layBytes.rd w h1 d.data [.slice ao7 d.data.1 cap7]):=g7;have E7:Hid (layBytes.rd w h2 d.data [.slice bao7 d.data.1 bcap7]):=q7;have G8:Hid (layBytes.rd w h1 d.delta [.slice ao8 d.delta.1 cap8]):=g8;have E8:Hid (layBytes.rd w h2 d.delta [.slice bao8 d.delta.1 bcap8]):=q8;clear g6 q6 g7 q7 g8 q8
  go_enter Tryz.func127,Tryz.ntmps127
  go_wp2_with fail
  have T0:=two_newb w #[.int .i64 d.kind,.int .i64 d.seq,.string d.name,.int .i64 d.length,.int .i64 d.group,.int .i64 d.row,.slice ao6 d.rows.1 cap6,.slice ao7 d.data.1 cap7,.slice ao8 d.delta.1 cap8] #[.int .i64 d.kind,.int .i64 d.seq,.string d.name,.int .i64 d.length,.int .i64 d.group,.int .i64 d.row,.slice bao6 d.rows.1 bcap6,.slice bao7 d.data.1 bcap7,.slice bao8 d.delta.1 bcap8] 93 93;refine (eqInts_is _ _ d.rows h1 h2 _ (layInts.rd_below G6.out T0.bel u1) (layInts.rd_below E6.out T0.bel u2) (Nat.le_trans u1 T0.bel.size) (Nat.le_trans u2 T0.bel.size)).mono ?_;rintro e w1 ⟨rfl,b1⟩;have T1:Two w w1 #[.int .i64 d.kind,.int .i64 d.seq,.string d.name,.int .i64 d.length,.int .i64 d.group,.int .i64 d.row,.slice ao6 d.rows.1 cap6,.slice ao7 d.data.1 cap7,.slice ao8 d.delta.1 cap8] #[.int .i64 d.kind,.int .i64 d.seq,.string d.name,.int .i64 d.length,.int .i64 d.group,.int .i64 d.row,.slice bao6 d.rows.1 bcap6,.slice bao7 d.data.1 bcap7,.slice bao8 d.delta.1 bcap8] 93 93:=T0.call b1;clear T0 b1;have x1_7:w1.cell? ⟨w.heap.size,7,none⟩ = some (.slice ao7 d.data.1 cap7):=T1.b1.cell 7;have y1_7:w1.cell? ⟨w.heap.size + 1,7,none⟩ = some (.slice bao7 d.data.1 bcap7):=T1.b2.cell 7
  go_wp2_with fail
  refine (eqBytes_is _ _ d.data h1 h2 _ (layBytes.rd_below G7.out T1.bel u1) (layBytes.rd_below E7.out T1.bel u2) (Nat.le_trans u1 T1.bel.size) (Nat.le_trans u2 T1.bel.size)).mono ?_;rintro e w2 ⟨rfl,b2⟩;have T2:Two w w2 #[.int .i64 d.kind,.int .i64 d.seq,.string d.name,.int .i64 d.length,.int .i64 d.group,.int .i64 d.row,.slice ao6 d.rows.1 cap6,.slice ao7 d.data.1 cap7,.slice ao8 d.delta.1 cap8] #[.int .i64 d.kind,.int .i64 d.seq,.string d.name,.int .i64 d.length,.int .i64 d.group,.int .i64 d.row,.slice bao6 d.rows.1 bcap6,.slice bao7 d.data.1 bcap7,.slice bao8 d.delta.1 bcap8] 93 93:=T1.call b2;clear T1 b2;have x2_8:w2.cell? ⟨w.heap.size,8,none⟩ = some (.slice ao8 d.delta.1 cap8):=T2.b1.cell 8;have y2_8:w2.cell? ⟨w.heap.size + 1,8,none⟩ = some (.slice bao8 d.delta.1 bcap8):=T2.b2.cell 8
  go_wp2_with fail
  refine (eqBytes_is _ _ d.delta h1 h2 _ (layBytes.rd_below G8.out T2.bel u1) (layBytes.rd_below E8.out T2.bel u2) (Nat.le_trans u1 T2.bel.size) (Nat.le_trans u2 T2.bel.size)).mono ?_;rintro e w3 ⟨rfl,b3⟩;have T3:Two w w3 #[.int .i64 d.kind,.int .i64 d.seq,.string d.name,.int .i64 d.length,.int .i64 d.group,.int .i64 d.row,.slice ao6 d.rows.1 cap6,.slice ao7 d.data.1 cap7,.slice ao8 d.delta.1 cap8] #[.int .i64 d.kind,.int .i64 d.seq,.string d.name,.int .i64 d.length,.int .i64 d.group,.int .i64 d.row,.slice bao6 d.rows.1 bcap6,.slice bao7 d.data.1 bcap7,.slice bao8 d.delta.1 bcap8] 93 93:=T2.call b3;clear T2 b3;have B:Hid (Below w.heap.size w w3):=T3.bel;clear T3;go_wp2;go_ret;exact ⟨rfl,B.out⟩
set_option maxHeartbeats 4000000 in
theorem eqRecS_is:EqS (layRec.slice 93) 103:=fun v1 v2 d h1 h2 w r1 r2 u1 u2 => by
  obtain ⟨n,x⟩:=d;obtain ⟨ao,cap,hv,hm,hc⟩:=r1
  cases hv
  obtain ⟨ao',cap',hv',hm',hc'⟩:=r2
  cases hv'
  simp only at hm hc hc'
  unfold maxLen at hm;clear hm'
  go_enter Tryz.func103,Tryz.ntmps103
  go_wp2
  go_loopw [5] (fun i wr => ∃ k:Nat,k ≤ n ∧ i = .int .i64 k ∧ Below w.heap.size w wr) (fun i _ => n - (intOf i).toNat)
  case atStart => exact ⟨0,Nat.zero_le _,rfl,Below.refl _ _⟩
  case round =>
    obtain ⟨k,hk,rfl,hb⟩:=hrel
    by_cases hlt:k < n
    · obtain ⟨b,off,rfl,hblt,hel⟩:=hc (by omega)
      obtain ⟨b',off',rfl,hblt',hel'⟩:=hc' (by omega);obtain ⟨ck,hrk,hcell⟩:=elem_rd (t:=0) hel (below_drewN hb 1) u1 hblt hlt;obtain ⟨ck',hrk',hcell'⟩:=elem_rd (t:=0) hel' (below_drewN hb 1) u2 hblt' hlt;obtain ⟨ao6,cap6,ao7,cap7,ao8,cap8,rfl,-⟩:=Rec_rd hrk;obtain ⟨bao6,bcap6,bao7,bcap7,bao8,bcap8,rfl,-⟩:=Rec_rd hrk';have c0:wr.cell? ⟨b,off + k * 9,none⟩ = some (.int .i64 (x k).kind):=hcell 0 (by decide);have c1:wr.cell? ⟨b,off + k * 9 + 1,none⟩ = some (.int .i64 (x k).seq):=hcell 1 (by decide);have c2:wr.cell? ⟨b,off + k * 9 + 2,none⟩ = some (.string (x k).name):=hcell 2 (by decide);have c3:wr.cell? ⟨b,off + k * 9 + 3,none⟩ = some (.int .i64 (x k).length):=hcell 3 (by decide);have c4:wr.cell? ⟨b,off + k * 9 + 4,none⟩ = some (.int .i64 (x k).group):=hcell 4 (by decide);have c5:wr.cell? ⟨b,off + k * 9 + 5,none⟩ = some (.int .i64 (x k).row):=hcell 5 (by decide);have c6:wr.cell? ⟨b,off + k * 9 + 6,none⟩ = some (.slice ao6 (x k).rows.1 cap6):=hcell 6 (by decide);have c7:wr.cell? ⟨b,off + k * 9 + 7,none⟩ = some (.slice ao7 (x k).data.1 cap7):=hcell 7 (by decide);have c8:wr.cell? ⟨b,off + k * 9 + 8,none⟩ = some (.slice ao8 (x k).delta.1 cap8):=hcell 8 (by decide);have e0:wr.cell? ⟨b',off' + k * 9,none⟩ = some (.int .i64 (x k).kind):=hcell' 0 (by decide);have e1:wr.cell? ⟨b',off' + k * 9 + 1,none⟩ = some (.int .i64 (x k).seq):=hcell' 1 (by decide);have e2:wr.cell? ⟨b',off' + k * 9 + 2,none⟩ = some (.string (x k).name):=hcell' 2 (by decide);have e3:wr.cell? ⟨b',off' + k * 9 + 3,none⟩ = some (.int .i64 (x k).length):=hcell' 3 (by decide);have e4:wr.cell? ⟨b',off' + k * 9 + 4,none⟩ = some (.int .i64 (x k).group):=hcell' 4 (by decide);have e5:wr.cell? ⟨b',off' + k * 9 + 5,none⟩ = some (.int .i64 (x k).row):=hcell' 5 (by decide);have e6:wr.cell? ⟨b',off' + k * 9 + 6,none⟩ = some (.slice bao6 (x k).rows.1 bcap6):=hcell' 6 (by decide);have e7:wr.cell? ⟨b',off' + k * 9 + 7,none⟩ = some (.slice bao7 (x k).data.1 bcap7):=hcell' 7 (by decide);have e8:wr.cell? ⟨b',off' + k * 9 + 8,none⟩ = some (.slice bao8 (x k).delta.1 bcap8):=hcell' 8 (by decide);have C1:=eqRec_is _ _ (x k) h1 h2 (wr.drewN 1) hrk hrk' (Nat.le_trans u1 hb.size) (Nat.le_trans u2 hb.size);clear hc hc' hel hel' hcell hcell' hrk hrk';go_wp2
      go_region_with (go_at_call 127;refine C1.mono ?_;rintro ee w2 ⟨rfl,hb2⟩)
      all_goals
        have R':Below w.heap.size w w2:=hb.trans ((below_drewN (Below.refl wr.heap.size wr) 1).trans hb2 |>.mono hb.size);clear hb2;go_wp2
        go_roundw
        case rel => exact ⟨k + 1,by omega,by go_num,R'⟩
        case measure => simp [intOf];omega
    · obtain rfl:k = n:=by omega
      go_wp2;go_ret;exact ⟨rfl,hb⟩
set_option maxHeartbeats 8000000 in
set_option maxRecDepth 20000 in
theorem eqTape_is:EqV layTape 71:=fun c1 c2 d h1 h2 w r1 r2 u1 u2 => by
  obtain ⟨ao1,cap1,rfl,g1⟩:=Tape_rd r1;obtain ⟨bao1,bcap1,rfl,q1⟩:=Tape_rd r2;clear r1 r2;have G1:Hid ((layRec.slice 93).rd w h1 d.recs [.slice ao1 d.recs.1 cap1]):=g1;have E1:Hid ((layRec.slice 93).rd w h2 d.recs [.slice bao1 d.recs.1 bcap1]):=q1;clear g1 q1
  go_enter Tryz.func71,Tryz.ntmps71
  go_wp2_with fail
  have T0:=two_newb w #[.bool d.wiped,.slice ao1 d.recs.1 cap1] #[.bool d.wiped,.slice bao1 d.recs.1 bcap1] 90 90;refine (eqRecS_is _ _ d.recs h1 h2 _ ((layRec.slice 93).rd_below G1.out T0.bel u1) ((layRec.slice 93).rd_below E1.out T0.bel u2) (Nat.le_trans u1 T0.bel.size) (Nat.le_trans u2 T0.bel.size)).mono ?_;rintro e w1 ⟨rfl,b1⟩;have T1:Two w w1 #[.bool d.wiped,.slice ao1 d.recs.1 cap1] #[.bool d.wiped,.slice bao1 d.recs.1 bcap1] 90 90:=T0.call b1;clear T0 b1;have B:Hid (Below w.heap.size w w1):=T1.bel;clear T1;go_wp2;go_ret;exact ⟨rfl,B.out⟩
set_option maxHeartbeats 4000000 in
theorem eqTapeS_is:EqS (layTape.slice 90) 39:=fun v1 v2 d h1 h2 w r1 r2 u1 u2 => by
  obtain ⟨n,x⟩:=d;obtain ⟨ao,cap,hv,hm,hc⟩:=r1
  cases hv
  obtain ⟨ao',cap',hv',hm',hc'⟩:=r2
  cases hv'
  simp only at hm hc hc'
  unfold maxLen at hm;clear hm'
  go_enter Tryz.func39,Tryz.ntmps39
  go_wp2
  go_loopw [5] (fun i wr => ∃ k:Nat,k ≤ n ∧ i = .int .i64 k ∧ Below w.heap.size w wr) (fun i _ => n - (intOf i).toNat)
  case atStart => exact ⟨0,Nat.zero_le _,rfl,Below.refl _ _⟩
  case round =>
    obtain ⟨k,hk,rfl,hb⟩:=hrel
    by_cases hlt:k < n
    · obtain ⟨b,off,rfl,hblt,hel⟩:=hc (by omega)
      obtain ⟨b',off',rfl,hblt',hel'⟩:=hc' (by omega);obtain ⟨ck,hrk,hcell⟩:=elem_rd (t:=0) hel (below_drewN hb 1) u1 hblt hlt;obtain ⟨ck',hrk',hcell'⟩:=elem_rd (t:=0) hel' (below_drewN hb 1) u2 hblt' hlt;obtain ⟨ao1,cap1,rfl,-⟩:=Tape_rd hrk;obtain ⟨bao1,bcap1,rfl,-⟩:=Tape_rd hrk';have c0:wr.cell? ⟨b,off + k * 2,none⟩ = some (.bool (x k).wiped):=hcell 0 (by decide);have c1:wr.cell? ⟨b,off + k * 2 + 1,none⟩ = some (.slice ao1 (x k).recs.1 cap1):=hcell 1 (by decide);have e0:wr.cell? ⟨b',off' + k * 2,none⟩ = some (.bool (x k).wiped):=hcell' 0 (by decide);have e1:wr.cell? ⟨b',off' + k * 2 + 1,none⟩ = some (.slice bao1 (x k).recs.1 bcap1):=hcell' 1 (by decide);have C1:=eqTape_is _ _ (x k) h1 h2 (wr.drewN 1) hrk hrk' (Nat.le_trans u1 hb.size) (Nat.le_trans u2 hb.size);clear hc hc' hel hel' hcell hcell' hrk hrk';go_wp2
      go_region_with (go_at_call 71;refine C1.mono ?_;rintro ee w2 ⟨rfl,hb2⟩)
      all_goals
        have R':Below w.heap.size w w2:=hb.trans ((below_drewN (Below.refl wr.heap.size wr) 1).trans hb2 |>.mono hb.size);clear hb2;go_wp2
        go_roundw
        case rel => exact ⟨k + 1,by omega,by go_num,R'⟩
        case measure => simp [intOf];omega
    · obtain rfl:k = n:=by omega
      go_wp2;go_ret;exact ⟨rfl,hb⟩
end Go.Proofs.YtbjblbbbafiepaaGreat
namespace Go.Proofs.YtbjblbbbafiepaaGreat
open Go.RowKit F256
set_option maxHeartbeats 2000000 in
theorem eqShape_any (s:Nat → Int) (w:World) :
    Calls Tryz.prog 37 #[shapeV s,shapeV s] w fun e w' => e = .returned (.bool true) ∧ Below w.heap.size w w':=by
  unfold shapeV
  go_enter Tryz.func37,Tryz.ntmps37
  go_wp2;go_ret;exact ⟨rfl,((Below.refl _ _).alloc (Nat.le_refl _) _).alloc (by simp) _⟩
end Go.Proofs.YtbjblbbbafiepaaGreat
namespace Go.Proofs.YtbjblbbbafiepaaGreat
open Go.RowKit F256
set_option maxHeartbeats 8000000 in
set_option maxRecDepth 20000 in
theorem eqWorld_is:EqV layWorld 11:=fun c1 c2 d h1 h2 w r1 r2 u1 u2 => by
  obtain ⟨ao1,cap1,ao2,cap2,ao3,cap3,rfl,g1,g2,g3,-⟩:=World_rd r1;obtain ⟨bao1,bcap1,bao2,bcap2,bao3,bcap3,rfl,q1,q2,q3,-⟩:=World_rd r2;clear r1 r2;have G1:Hid (((layDrive.slice 98).slice 95).rd w h1 d.groups [.slice ao1 d.groups.1 cap1]):=g1;have E1:Hid (((layDrive.slice 98).slice 95).rd w h2 d.groups [.slice bao1 d.groups.1 bcap1]):=q1;have G2:Hid (layInts.rd w h1 d.on [.slice ao2 d.on.1 cap2]):=g2;have E2:Hid (layInts.rd w h2 d.on [.slice bao2 d.on.1 bcap2]):=q2;have G3:Hid ((layTape.slice 90).rd w h1 d.tapes [.slice ao3 d.tapes.1 cap3]):=g3;have E3:Hid ((layTape.slice 90).rd w h2 d.tapes [.slice bao3 d.tapes.1 bcap3]):=q3;clear g1 q1 g2 q2 g3 q3
  go_enter Tryz.func11,Tryz.ntmps11
  go_wp2_with fail
  have T0:=two_newb w #[.int .i64 (d.shape 0),.int .i64 (d.shape 1),.int .i64 (d.shape 2),.int .i64 (d.shape 3),.int .i64 (d.shape 4),.int .i64 (d.shape 5),.int .i64 (d.shape 6),.int .i64 (d.shape 7),.int .i64 (d.shape 8),.slice ao1 d.groups.1 cap1,.slice ao2 d.on.1 cap2,.slice ao3 d.tapes.1 cap3,.int .i64 d.writes,.int .i64 d.stop,.bool d.down] #[.int .i64 (d.shape 0),.int .i64 (d.shape 1),.int .i64 (d.shape 2),.int .i64 (d.shape 3),.int .i64 (d.shape 4),.int .i64 (d.shape 5),.int .i64 (d.shape 6),.int .i64 (d.shape 7),.int .i64 (d.shape 8),.slice bao1 d.groups.1 bcap1,.slice bao2 d.on.1 bcap2,.slice bao3 d.tapes.1 bcap3,.int .i64 d.writes,.int .i64 d.stop,.bool d.down] 37 37;refine (eqShape_any d.shape _).mono ?_;rintro e w1 ⟨rfl,b1⟩;have T1:Two w w1 #[.int .i64 (d.shape 0),.int .i64 (d.shape 1),.int .i64 (d.shape 2),.int .i64 (d.shape 3),.int .i64 (d.shape 4),.int .i64 (d.shape 5),.int .i64 (d.shape 6),.int .i64 (d.shape 7),.int .i64 (d.shape 8),.slice ao1 d.groups.1 cap1,.slice ao2 d.on.1 cap2,.slice ao3 d.tapes.1 cap3,.int .i64 d.writes,.int .i64 d.stop,.bool d.down] #[.int .i64 (d.shape 0),.int .i64 (d.shape 1),.int .i64 (d.shape 2),.int .i64 (d.shape 3),.int .i64 (d.shape 4),.int .i64 (d.shape 5),.int .i64 (d.shape 6),.int .i64 (d.shape 7),.int .i64 (d.shape 8),.slice bao1 d.groups.1 bcap1,.slice bao2 d.on.1 bcap2,.slice bao3 d.tapes.1 bcap3,.int .i64 d.writes,.int .i64 d.stop,.bool d.down] 37 37:=T0.call b1;clear T0 b1;have x1_9:w1.cell? ⟨w.heap.size,9,none⟩ = some (.slice ao1 d.groups.1 cap1):=T1.b1.cell 9;have y1_9:w1.cell? ⟨w.heap.size + 1,9,none⟩ = some (.slice bao1 d.groups.1 bcap1):=T1.b2.cell 9
  go_wp2_with fail
  refine (eqDriveSS_is _ _ d.groups h1 h2 _ (((layDrive.slice 98).slice 95).rd_below G1.out T1.bel u1) (((layDrive.slice 98).slice 95).rd_below E1.out T1.bel u2) (Nat.le_trans u1 T1.bel.size) (Nat.le_trans u2 T1.bel.size)).mono ?_;rintro e w2 ⟨rfl,b2⟩;have T2:Two w w2 #[.int .i64 (d.shape 0),.int .i64 (d.shape 1),.int .i64 (d.shape 2),.int .i64 (d.shape 3),.int .i64 (d.shape 4),.int .i64 (d.shape 5),.int .i64 (d.shape 6),.int .i64 (d.shape 7),.int .i64 (d.shape 8),.slice ao1 d.groups.1 cap1,.slice ao2 d.on.1 cap2,.slice ao3 d.tapes.1 cap3,.int .i64 d.writes,.int .i64 d.stop,.bool d.down] #[.int .i64 (d.shape 0),.int .i64 (d.shape 1),.int .i64 (d.shape 2),.int .i64 (d.shape 3),.int .i64 (d.shape 4),.int .i64 (d.shape 5),.int .i64 (d.shape 6),.int .i64 (d.shape 7),.int .i64 (d.shape 8),.slice bao1 d.groups.1 bcap1,.slice bao2 d.on.1 bcap2,.slice bao3 d.tapes.1 bcap3,.int .i64 d.writes,.int .i64 d.stop,.bool d.down] 37 37:=T1.call b2;clear T1 b2;have x2_10:w2.cell? ⟨w.heap.size,10,none⟩ = some (.slice ao2 d.on.1 cap2):=T2.b1.cell 10;have y2_10:w2.cell? ⟨w.heap.size + 1,10,none⟩ = some (.slice bao2 d.on.1 bcap2):=T2.b2.cell 10
  go_wp2_with fail
  refine (eqInts_is _ _ d.on h1 h2 _ (layInts.rd_below G2.out T2.bel u1) (layInts.rd_below E2.out T2.bel u2) (Nat.le_trans u1 T2.bel.size) (Nat.le_trans u2 T2.bel.size)).mono ?_;rintro e w3 ⟨rfl,b3⟩;have T3:Two w w3 #[.int .i64 (d.shape 0),.int .i64 (d.shape 1),.int .i64 (d.shape 2),.int .i64 (d.shape 3),.int .i64 (d.shape 4),.int .i64 (d.shape 5),.int .i64 (d.shape 6),.int .i64 (d.shape 7),.int .i64 (d.shape 8),.slice ao1 d.groups.1 cap1,.slice ao2 d.on.1 cap2,.slice ao3 d.tapes.1 cap3,.int .i64 d.writes,.int .i64 d.stop,.bool d.down] #[.int .i64 (d.shape 0),.int .i64 (d.shape 1),.int .i64 (d.shape 2),.int .i64 (d.shape 3),.int .i64 (d.shape 4),.int .i64 (d.shape 5),.int .i64 (d.shape 6),.int .i64 (d.shape 7),.int .i64 (d.shape 8),.slice bao1 d.groups.1 bcap1,.slice bao2 d.on.1 bcap2,.slice bao3 d.tapes.1 bcap3,.int .i64 d.writes,.int .i64 d.stop,.bool d.down] 37 37:=T2.call b3;clear T2 b3;have x3_11:w3.cell? ⟨w.heap.size,11,none⟩ = some (.slice ao3 d.tapes.1 cap3):=T3.b1.cell 11;have y3_11:w3.cell? ⟨w.heap.size + 1,11,none⟩ = some (.slice bao3 d.tapes.1 bcap3):=T3.b2.cell 11
  go_wp2_with fail
  refine (eqTapeS_is _ _ d.tapes h1 h2 _ ((layTape.slice 90).rd_below G3.out T3.bel u1) ((layTape.slice 90).rd_below E3.out T3.bel u2) (Nat.le_trans u1 T3.bel.size) (Nat.le_trans u2 T3.bel.size)).mono ?_;rintro e w4 ⟨rfl,b4⟩;have T4:Two w w4 #[.int .i64 (d.shape 0),.int .i64 (d.shape 1),.int .i64 (d.shape 2),.int .i64 (d.shape 3),.int .i64 (d.shape 4),.int .i64 (d.shape 5),.int .i64 (d.shape 6),.int .i64 (d.shape 7),.int .i64 (d.shape 8),.slice ao1 d.groups.1 cap1,.slice ao2 d.on.1 cap2,.slice ao3 d.tapes.1 cap3,.int .i64 d.writes,.int .i64 d.stop,.bool d.down] #[.int .i64 (d.shape 0),.int .i64 (d.shape 1),.int .i64 (d.shape 2),.int .i64 (d.shape 3),.int .i64 (d.shape 4),.int .i64 (d.shape 5),.int .i64 (d.shape 6),.int .i64 (d.shape 7),.int .i64 (d.shape 8),.slice bao1 d.groups.1 bcap1,.slice bao2 d.on.1 bcap2,.slice bao3 d.tapes.1 bcap3,.int .i64 d.writes,.int .i64 d.stop,.bool d.down] 37 37:=T3.call b4;clear T3 b4;have x4_12:w4.cell? ⟨w.heap.size,12,none⟩ = some (.int .i64 d.writes):=T4.b1.cell 12;have y4_12:w4.cell? ⟨w.heap.size + 1,12,none⟩ = some (.int .i64 d.writes):=T4.b2.cell 12;have x4_13:w4.cell? ⟨w.heap.size,13,none⟩ = some (.int .i64 d.stop):=T4.b1.cell 13;have y4_13:w4.cell? ⟨w.heap.size + 1,13,none⟩ = some (.int .i64 d.stop):=T4.b2.cell 13;have x4_14:w4.cell? ⟨w.heap.size,14,none⟩ = some (.bool d.down):=T4.b1.cell 14;have y4_14:w4.cell? ⟨w.heap.size + 1,14,none⟩ = some (.bool d.down):=T4.b2.cell 14;have B:Hid (Below w.heap.size w w4):=T4.bel;clear T4;go_wp2;go_ret;exact ⟨rfl,B.out⟩
end Go.Proofs.YtbjblbbbafiepaaGreat
namespace Go.Proofs.YtbjblbbbafiepaaGreat
open Go.RowKit F256
set_option maxHeartbeats 4000000 in
theorem szBlock_is:SzV layBlock szBlockD 131:=fun cs d hi L w r hhi hL => by
  obtain ⟨ao1,cap1,rfl,r1,k0⟩:=Block_rd r;clear r;unfold szBlockD;have R1:Hid (layBytes.rd w hi d.bytes [.slice ao1 d.bytes.1 cap1]):=r1;clear r1
  go_enter Tryz.func131,Tryz.ntmps131
  go_wp2_with fail
  have T0:=one_new w #[.int .i64 d.stamp,.slice ao1 d.bytes.1 cap1] 154;refine (szBytes_is _ d.bytes hi L _ (layBytes.rd_below R1.out T0.bel hhi) (Nat.le_trans hhi T0.bel.size) (by omega)).mono ?_;rintro e w1 ⟨y1,rfl,s1,b1⟩;have T1:One w w1 #[.int .i64 d.stamp,.slice ao1 d.bytes.1 cap1] 154:=T0.call b1;have HB1:Hid (Below w.heap.size w w1):=T1.bel
  rcases s1 with rfl | ⟨l1,hy1⟩
  · clear T1 T0 b1
    go_wp2;go_ret;exact ⟨-1,rfl,.inl rfl,HB1.out⟩
  obtain ⟨M1,hM1⟩:∃ M:Nat,M + lenD d.bytes = L:=⟨L - lenD d.bytes,by omega⟩
  obtain rfl:y1 = ((M1:Nat):Int):=by omega
  have HM1:Hid (M1 + lenD d.bytes = L):=hM1
  have hML1:M1 ≤ L:=by omega
  have hz1:¬ ((M1:Int) < 0):=by omega
  clear hM1 hy1 l1 T0 b1;clear T1;go_wp2;go_ret;exact ⟨M1,rfl,.inr ⟨by have e0:=HM1.out;omega,by have e0:=HM1.out;omega⟩,HB1.out⟩
set_option maxHeartbeats 4000000 in
theorem szBlockS_is:SzS (layBlock.slice 111) (szSl szBlockD) 113:=fun v d hi L w h hhi hL => by
  obtain ⟨n,x⟩:=d;obtain ⟨ao,cap,hv,hm,hc⟩:=h
  cases hv
  simp only at hm hc
  unfold maxLen at hm
  by_cases hnL:L < n
  · clear hc
    have hz:(L:Int) - (n:Int) < 0:=by omega
    go_enter Tryz.func113,Tryz.ntmps113
    go_wp2;go_ret;exact ⟨-1,rfl,.inl rfl,Below.refl _ _⟩
  · have hz:¬ (L:Int) - (n:Int) < 0:=by omega
    go_enter Tryz.func113,Tryz.ntmps113
    go_wp2
    go_loopw [1,5] (fun y i wr => ∃ k M:Nat,k ≤ n ∧ i = .int .i64 k ∧ y = .int .i64 M ∧ M + n + sumN (fun i => szBlockD (x i)) k = L ∧ Below w.heap.size w wr) (fun _ i _ => n - (intOf i).toNat)
    case atStart => exact ⟨0,L - n,Nat.zero_le _,rfl,val_eq (by omega),by simp [sumN];omega,Below.refl _ _⟩
    case round =>
      obtain ⟨k,M,hk,rfl,rfl,hM,hb⟩:=hrel;have HM:Hid (M + n + sumN (fun i => szBlockD (x i)) k = L):=hM
      have hML:M ≤ L:=by omega
      clear hM
      by_cases hlt:k < n
      · obtain ⟨b,off,rfl,hblt,hel⟩:=hc (by omega)
        obtain ⟨ck,hrk,hcell⟩:=elem_rd (t:=0) hel hb hhi hblt hlt;obtain ⟨ao1,cap1,rfl,-⟩:=Block_rd hrk;have c0:wr.cell? ⟨b,off + k * 2,none⟩ = some (.int .i64 (x k).stamp):=hcell 0 (by decide);have c1:wr.cell? ⟨b,off + k * 2 + 1,none⟩ = some (.slice ao1 (x k).bytes.1 cap1):=hcell 1 (by decide);clear hc hel hcell
        go_wp2_with fail
        refine (szBlock_is _ (x k) hi M _ hrk (Nat.le_trans hhi hb.size) (by omega)).mono ?_;rintro e w2 ⟨y,rfl,s,b2⟩;have HB:Hid (Below w.heap.size w w2):=hb.trans (b2.mono hb.size);clear b2 hb hrk
        rcases s with rfl | ⟨l1,hy⟩
        · go_wp2
          go_ret;exact ⟨-1,rfl,.inl rfl,HB.out⟩
        · obtain ⟨M',hM'⟩:∃ M':Nat,M' + szBlockD (x k) = M:=⟨M - szBlockD (x k),by omega⟩
          obtain rfl:y = (M':Int):=by omega
          have HM':Hid (M' + szBlockD (x k) = M):=hM'
          have hz2:¬ ((M':Int) < 0):=by omega
          clear hM' hy l1
          go_wp2_with fail
          go_roundw
          case rel => exact ⟨k + 1,M',by omega,by go_num,rfl,by
                have e1:=HM.out;have e2:=HM'.out;have e3:sumN (fun i => szBlockD (x i)) (k + 1) = sumN (fun i => szBlockD (x i)) k + szBlockD (x k):=rfl
                omega,HB.out⟩
          case measure => simp [intOf];omega
      · obtain rfl:k = n:=by omega
        go_wp2;go_ret
        exact ⟨M,rfl,.inr ⟨by
          have e1:=HM.out
          show k + sumN (fun i => szBlockD (x i)) k ≤ L
          omega,by
          have e1:=HM.out
          show (M:Int) = (L:Int) - ((k + sumN (fun i => szBlockD (x i)) k:Nat):Int)
          omega⟩,hb⟩
set_option maxHeartbeats 4000000 in
theorem szDrive_is:SzV layDrive szDriveD 84:=fun cs d hi L w r hhi hL => by
  obtain ⟨ao1,cap1,rfl,r1⟩:=Drive_rd r;clear r;unfold szDriveD;have R1:Hid ((layBlock.slice 111).rd w hi d.blocks [.slice ao1 d.blocks.1 cap1]):=r1;clear r1
  go_enter Tryz.func84,Tryz.ntmps84
  go_wp2_with fail
  have T0:=one_new w #[.bool d.wiped,.slice ao1 d.blocks.1 cap1] 120;refine (szBlockS_is _ d.blocks hi L _ ((layBlock.slice 111).rd_below R1.out T0.bel hhi) (Nat.le_trans hhi T0.bel.size) (by omega)).mono ?_;rintro e w1 ⟨y1,rfl,s1,b1⟩;have T1:One w w1 #[.bool d.wiped,.slice ao1 d.blocks.1 cap1] 120:=T0.call b1;have HB1:Hid (Below w.heap.size w w1):=T1.bel
  rcases s1 with rfl | ⟨l1,hy1⟩
  · clear T1 T0 b1
    go_wp2;go_ret;exact ⟨-1,rfl,.inl rfl,HB1.out⟩
  obtain ⟨M1,hM1⟩:∃ M:Nat,M + (szSl szBlockD) d.blocks = L:=⟨L - (szSl szBlockD) d.blocks,by omega⟩
  obtain rfl:y1 = ((M1:Nat):Int):=by omega
  have HM1:Hid (M1 + (szSl szBlockD) d.blocks = L):=hM1
  have hML1:M1 ≤ L:=by omega
  have hz1:¬ ((M1:Int) < 0):=by omega
  clear hM1 hy1 l1 T0 b1;clear T1;go_wp2;go_ret;exact ⟨M1,rfl,.inr ⟨by have e0:=HM1.out;omega,by have e0:=HM1.out;omega⟩,HB1.out⟩
set_option maxHeartbeats 4000000 in
theorem szDriveS_is:SzS (layDrive.slice 98) (szSl szDriveD) 53:=fun v d hi L w h hhi hL => by
  obtain ⟨n,x⟩:=d;obtain ⟨ao,cap,hv,hm,hc⟩:=h
  cases hv
  simp only at hm hc
  unfold maxLen at hm
  by_cases hnL:L < n
  · clear hc
    have hz:(L:Int) - (n:Int) < 0:=by omega
    go_enter Tryz.func53,Tryz.ntmps53
    go_wp2;go_ret;exact ⟨-1,rfl,.inl rfl,Below.refl _ _⟩
  · have hz:¬ (L:Int) - (n:Int) < 0:=by omega
    go_enter Tryz.func53,Tryz.ntmps53
    go_wp2
    go_loopw [1,5] (fun y i wr => ∃ k M:Nat,k ≤ n ∧ i = .int .i64 k ∧ y = .int .i64 M ∧ M + n + sumN (fun i => szDriveD (x i)) k = L ∧ Below w.heap.size w wr) (fun _ i _ => n - (intOf i).toNat)
    case atStart => exact ⟨0,L - n,Nat.zero_le _,rfl,val_eq (by omega),by simp [sumN];omega,Below.refl _ _⟩
    case round =>
      obtain ⟨k,M,hk,rfl,rfl,hM,hb⟩:=hrel;have HM:Hid (M + n + sumN (fun i => szDriveD (x i)) k = L):=hM
      have hML:M ≤ L:=by omega
      clear hM
      by_cases hlt:k < n
      · obtain ⟨b,off,rfl,hblt,hel⟩:=hc (by omega)
        obtain ⟨ck,hrk,hcell⟩:=elem_rd (t:=0) hel hb hhi hblt hlt;obtain ⟨ao1,cap1,rfl,-⟩:=Drive_rd hrk;have c0:wr.cell? ⟨b,off + k * 2,none⟩ = some (.bool (x k).wiped):=hcell 0 (by decide);have c1:wr.cell? ⟨b,off + k * 2 + 1,none⟩ = some (.slice ao1 (x k).blocks.1 cap1):=hcell 1 (by decide);clear hc hel hcell
        go_wp2_with fail
        refine (szDrive_is _ (x k) hi M _ hrk (Nat.le_trans hhi hb.size) (by omega)).mono ?_;rintro e w2 ⟨y,rfl,s,b2⟩;have HB:Hid (Below w.heap.size w w2):=hb.trans (b2.mono hb.size);clear b2 hb hrk
        rcases s with rfl | ⟨l1,hy⟩
        · go_wp2
          go_ret;exact ⟨-1,rfl,.inl rfl,HB.out⟩
        · obtain ⟨M',hM'⟩:∃ M':Nat,M' + szDriveD (x k) = M:=⟨M - szDriveD (x k),by omega⟩
          obtain rfl:y = (M':Int):=by omega
          have HM':Hid (M' + szDriveD (x k) = M):=hM'
          have hz2:¬ ((M':Int) < 0):=by omega
          clear hM' hy l1
          go_wp2_with fail
          go_roundw
          case rel => exact ⟨k + 1,M',by omega,by go_num,rfl,by
                have e1:=HM.out;have e2:=HM'.out;have e3:sumN (fun i => szDriveD (x i)) (k + 1) = sumN (fun i => szDriveD (x i)) k + szDriveD (x k):=rfl
                omega,HB.out⟩
          case measure => simp [intOf];omega
      · obtain rfl:k = n:=by omega
        go_wp2;go_ret
        exact ⟨M,rfl,.inr ⟨by
          have e1:=HM.out
          show k + sumN (fun i => szDriveD (x i)) k ≤ L
          omega,by
          have e1:=HM.out
          show (M:Int) = (L:Int) - ((k + sumN (fun i => szDriveD (x i)) k:Nat):Int)
          omega⟩,hb⟩
set_option maxHeartbeats 4000000 in
theorem szDriveSS_is:SzS ((layDrive.slice 98).slice 95) (szSl (szSl szDriveD)) 23:=fun v d hi L w h hhi hL => by
  obtain ⟨n,x⟩:=d;obtain ⟨ao,cap,hv,hm,hc⟩:=h
  cases hv
  simp only at hm hc
  unfold maxLen at hm
  by_cases hnL:L < n
  · clear hc
    have hz:(L:Int) - (n:Int) < 0:=by omega
    go_enter Tryz.func23,Tryz.ntmps23
    go_wp2;go_ret;exact ⟨-1,rfl,.inl rfl,Below.refl _ _⟩
  · have hz:¬ (L:Int) - (n:Int) < 0:=by omega
    go_enter Tryz.func23,Tryz.ntmps23
    go_wp2
    go_loopw [1,5] (fun y i wr => ∃ k M:Nat,k ≤ n ∧ i = .int .i64 k ∧ y = .int .i64 M ∧ M + n + sumN (fun i => (szSl szDriveD) (x i)) k = L ∧ Below w.heap.size w wr) (fun _ i _ => n - (intOf i).toNat)
    case atStart => exact ⟨0,L - n,Nat.zero_le _,rfl,val_eq (by omega),by simp [sumN];omega,Below.refl _ _⟩
    case round =>
      obtain ⟨k,M,hk,rfl,rfl,hM,hb⟩:=hrel;have HM:Hid (M + n + sumN (fun i => (szSl szDriveD) (x i)) k = L):=hM
      have hML:M ≤ L:=by omega
      clear hM
      by_cases hlt:k < n
      · obtain ⟨b,off,rfl,hblt,hel⟩:=hc (by omega)
        obtain ⟨ck,hrk,hcell⟩:=elem_rd (t:=0) hel hb hhi hblt hlt;obtain ⟨ao9,cap9,rfl⟩:=sl_form hrk
        have c0:wr.cell? ⟨b,off + k,none⟩ = some (.slice ao9 (x k).1 cap9):=by
          have h:=hcell 0 (show 0 < 1 by decide);rw [show (layDrive.slice 98).sz = 1 from rfl,Nat.mul_one,Nat.add_zero] at h;exact h
        clear hc hel hcell
        go_wp2_with fail
        refine (szDriveS_is _ (x k) hi M _ hrk (Nat.le_trans hhi hb.size) (by omega)).mono ?_;rintro e w2 ⟨y,rfl,s,b2⟩;have HB:Hid (Below w.heap.size w w2):=hb.trans (b2.mono hb.size);clear b2 hb hrk
        rcases s with rfl | ⟨l1,hy⟩
        · go_wp2
          go_ret;exact ⟨-1,rfl,.inl rfl,HB.out⟩
        · obtain ⟨M',hM'⟩:∃ M':Nat,M' + (szSl szDriveD) (x k) = M:=⟨M - (szSl szDriveD) (x k),by omega⟩
          obtain rfl:y = (M':Int):=by omega
          have HM':Hid (M' + (szSl szDriveD) (x k) = M):=hM'
          have hz2:¬ ((M':Int) < 0):=by omega
          clear hM' hy l1
          go_wp2_with fail
          go_roundw
          case rel => exact ⟨k + 1,M',by omega,by go_num,rfl,by
                have e1:=HM.out;have e2:=HM'.out;have e3:sumN (fun i => (szSl szDriveD) (x i)) (k + 1) = sumN (fun i => (szSl szDriveD) (x i)) k + (szSl szDriveD) (x k):=rfl
                omega,HB.out⟩
          case measure => simp [intOf];omega
      · obtain rfl:k = n:=by omega
        go_wp2;go_ret
        exact ⟨M,rfl,.inr ⟨by
          have e1:=HM.out
          show k + sumN (fun i => (szSl szDriveD) (x i)) k ≤ L
          omega,by
          have e1:=HM.out
          show (M:Int) = (L:Int) - ((k + sumN (fun i => (szSl szDriveD) (x i)) k:Nat):Int)
          omega⟩,hb⟩
end Go.Proofs.YtbjblbbbafiepaaGreat
namespace Go.Proofs.YtbjblbbbafiepaaGreat
open Go.RowKit F256
set_option maxHeartbeats 4000000 in
theorem szRec_is:SzV layRec szRecD 114:=fun cs d hi L w r hhi hL => by
  obtain ⟨ao6,cap6,ao7,cap7,ao8,cap8,rfl,r6,r7,r8,k0,k1,k2,k3,k4,k5⟩:=Rec_rd r;clear r;unfold szRecD;have R6:Hid (layInts.rd w hi d.rows [.slice ao6 d.rows.1 cap6]):=r6;have R7:Hid (layBytes.rd w hi d.data [.slice ao7 d.data.1 cap7]):=r7;have R8:Hid (layBytes.rd w hi d.delta [.slice ao8 d.delta.1 cap8]):=r8;clear r6 r7 r8;unfold maxLen at k2
  by_cases hnm:L < d.name.size
  · have hz:(L:Int) - (d.name.size:Int) < 0:=by omega
    go_enter Tryz.func114,Tryz.ntmps114
    go_wp2;go_ret;exact ⟨-1,rfl,.inl rfl,(one_new w _ _).bel⟩
  · have hz:¬ (L:Int) - (d.name.size:Int) < 0:=by omega
    obtain ⟨M0,hM0⟩:∃ M0:Nat,M0 + d.name.size = L:=⟨L - d.name.size,by omega⟩
    have eM0:(L:Int) - (d.name.size:Int) = (M0:Int):=by omega
    go_enter Tryz.func114,Tryz.ntmps114
    go_wp2_with fail
    have T0:=one_new w #[.int .i64 d.kind,.int .i64 d.seq,.string d.name,.int .i64 d.length,.int .i64 d.group,.int .i64 d.row,.slice ao6 d.rows.1 cap6,.slice ao7 d.data.1 cap7,.slice ao8 d.delta.1 cap8] 141;have HM0:Hid (M0 + d.name.size = L):=hM0
    have hML0:M0 ≤ L:=by omega
    first | rw [eM0] | skip
    clear hM0;refine (szInts_is _ d.rows hi M0 _ (layInts.rd_below R6.out T0.bel hhi) (Nat.le_trans hhi T0.bel.size) (by omega)).mono ?_;rintro e w1 ⟨y1,rfl,s1,b1⟩;have T1:One w w1 #[.int .i64 d.kind,.int .i64 d.seq,.string d.name,.int .i64 d.length,.int .i64 d.group,.int .i64 d.row,.slice ao6 d.rows.1 cap6,.slice ao7 d.data.1 cap7,.slice ao8 d.delta.1 cap8] 141:=T0.call b1;have x1_7:w1.cell? ⟨w.heap.size,7,none⟩ = some (.slice ao7 d.data.1 cap7):=T1.b1.cell 7;have HB1:Hid (Below w.heap.size w w1):=T1.bel
    rcases s1 with rfl | ⟨l1,hy1⟩
    · clear T1 T0 b1
      go_wp2;go_ret;exact ⟨-1,rfl,.inl rfl,HB1.out⟩
    obtain ⟨M1,hM1⟩:∃ M:Nat,M + lenD d.rows = M0:=⟨M0 - lenD d.rows,by omega⟩
    obtain rfl:y1 = ((M1:Nat):Int):=by omega
    have HM1:Hid (M1 + lenD d.rows = M0):=hM1
    have hML1:M1 ≤ M0:=by omega
    have hz1:¬ ((M1:Int) < 0):=by omega
    clear hM1 hy1 l1 T0 b1
    go_wp2_with fail
    refine (szBytes_is _ d.data hi M1 _ (layBytes.rd_below R7.out T1.bel hhi) (Nat.le_trans hhi T1.bel.size) (by omega)).mono ?_;rintro e w2 ⟨y2,rfl,s2,b2⟩;have T2:One w w2 #[.int .i64 d.kind,.int .i64 d.seq,.string d.name,.int .i64 d.length,.int .i64 d.group,.int .i64 d.row,.slice ao6 d.rows.1 cap6,.slice ao7 d.data.1 cap7,.slice ao8 d.delta.1 cap8] 141:=T1.call b2;have x2_8:w2.cell? ⟨w.heap.size,8,none⟩ = some (.slice ao8 d.delta.1 cap8):=T2.b1.cell 8;have HB2:Hid (Below w.heap.size w w2):=T2.bel
    rcases s2 with rfl | ⟨l2,hy2⟩
    · clear T2 T1 b2
      go_wp2;go_ret;exact ⟨-1,rfl,.inl rfl,HB2.out⟩
    obtain ⟨M2,hM2⟩:∃ M:Nat,M + lenD d.data = M1:=⟨M1 - lenD d.data,by omega⟩
    obtain rfl:y2 = ((M2:Nat):Int):=by omega
    have HM2:Hid (M2 + lenD d.data = M1):=hM2
    have hML2:M2 ≤ M1:=by omega
    have hz2:¬ ((M2:Int) < 0):=by omega
    clear hM2 hy2 l2 T1 b2
    go_wp2_with fail
    refine (szBytes_is _ d.delta hi M2 _ (layBytes.rd_below R8.out T2.bel hhi) (Nat.le_trans hhi T2.bel.size) (by omega)).mono ?_;rintro e w3 ⟨y3,rfl,s3,b3⟩;have T3:One w w3 #[.int .i64 d.kind,.int .i64 d.seq,.string d.name,.int .i64 d.length,.int .i64 d.group,.int .i64 d.row,.slice ao6 d.rows.1 cap6,.slice ao7 d.data.1 cap7,.slice ao8 d.delta.1 cap8] 141:=T2.call b3;have HB3:Hid (Below w.heap.size w w3):=T3.bel
    rcases s3 with rfl | ⟨l3,hy3⟩
    · clear T3 T2 b3
      go_wp2;go_ret;exact ⟨-1,rfl,.inl rfl,HB3.out⟩
    obtain ⟨M3,hM3⟩:∃ M:Nat,M + lenD d.delta = M2:=⟨M2 - lenD d.delta,by omega⟩
    obtain rfl:y3 = ((M3:Nat):Int):=by omega
    have HM3:Hid (M3 + lenD d.delta = M2):=hM3
    have hML3:M3 ≤ M2:=by omega
    have hz3:¬ ((M3:Int) < 0):=by omega
    clear hM3 hy3 l3 T2 b3;clear T3;go_wp2;go_ret;exact ⟨M3,rfl,.inr ⟨by have e0:=HM0.out;have e1:=HM1.out;have e2:=HM2.out;have e3:=HM3.out;omega,by have e0:=HM0.out;have e1:=HM1.out;have e2:=HM2.out;have e3:=HM3.out;omega⟩,HB3.out⟩
set_option maxHeartbeats 4000000 in
theorem szRecS_is:SzS (layRec.slice 93) (szSl szRecD) 85:=fun v d hi L w h hhi hL => by
  obtain ⟨n,x⟩:=d;obtain ⟨ao,cap,hv,hm,hc⟩:=h
  cases hv
  simp only at hm hc
  unfold maxLen at hm
  by_cases hnL:L < n
  · clear hc
    have hz:(L:Int) - (n:Int) < 0:=by omega
    go_enter Tryz.func85,Tryz.ntmps85
    go_wp2;go_ret;exact ⟨-1,rfl,.inl rfl,Below.refl _ _⟩
  · have hz:¬ (L:Int) - (n:Int) < 0:=by omega
    go_enter Tryz.func85,Tryz.ntmps85
    go_wp2
    go_loopw [1,5] (fun y i wr => ∃ k M:Nat,k ≤ n ∧ i = .int .i64 k ∧ y = .int .i64 M ∧ M + n + sumN (fun i => szRecD (x i)) k = L ∧ Below w.heap.size w wr) (fun _ i _ => n - (intOf i).toNat)
    case atStart => exact ⟨0,L - n,Nat.zero_le _,rfl,val_eq (by omega),by simp [sumN];omega,Below.refl _ _⟩
    case round =>
      obtain ⟨k,M,hk,rfl,rfl,hM,hb⟩:=hrel;have HM:Hid (M + n + sumN (fun i => szRecD (x i)) k = L):=hM
      have hML:M ≤ L:=by omega
      clear hM
      by_cases hlt:k < n
      · obtain ⟨b,off,rfl,hblt,hel⟩:=hc (by omega)
        obtain ⟨ck,hrk,hcell⟩:=elem_rd (t:=0) hel hb hhi hblt hlt;obtain ⟨ao6,cap6,ao7,cap7,ao8,cap8,rfl,-⟩:=Rec_rd hrk;have c0:wr.cell? ⟨b,off + k * 9,none⟩ = some (.int .i64 (x k).kind):=hcell 0 (by decide);have c1:wr.cell? ⟨b,off + k * 9 + 1,none⟩ = some (.int .i64 (x k).seq):=hcell 1 (by decide);have c2:wr.cell? ⟨b,off + k * 9 + 2,none⟩ = some (.string (x k).name):=hcell 2 (by decide);have c3:wr.cell? ⟨b,off + k * 9 + 3,none⟩ = some (.int .i64 (x k).length):=hcell 3 (by decide);have c4:wr.cell? ⟨b,off + k * 9 + 4,none⟩ = some (.int .i64 (x k).group):=hcell 4 (by decide);have c5:wr.cell? ⟨b,off + k * 9 + 5,none⟩ = some (.int .i64 (x k).row):=hcell 5 (by decide);have c6:wr.cell? ⟨b,off + k * 9 + 6,none⟩ = some (.slice ao6 (x k).rows.1 cap6):=hcell 6 (by decide);have c7:wr.cell? ⟨b,off + k * 9 + 7,none⟩ = some (.slice ao7 (x k).data.1 cap7):=hcell 7 (by decide);have c8:wr.cell? ⟨b,off + k * 9 + 8,none⟩ = some (.slice ao8 (x k).delta.1 cap8):=hcell 8 (by decide);clear hc hel hcell
        go_wp2_with fail
        refine (szRec_is _ (x k) hi M _ hrk (Nat.le_trans hhi hb.size) (by omega)).mono ?_;rintro e w2 ⟨y,rfl,s,b2⟩;have HB:Hid (Below w.heap.size w w2):=hb.trans (b2.mono hb.size);clear b2 hb hrk
        rcases s with rfl | ⟨l1,hy⟩
        · go_wp2
          go_ret;exact ⟨-1,rfl,.inl rfl,HB.out⟩
        · obtain ⟨M',hM'⟩:∃ M':Nat,M' + szRecD (x k) = M:=⟨M - szRecD (x k),by omega⟩
          obtain rfl:y = (M':Int):=by omega
          have HM':Hid (M' + szRecD (x k) = M):=hM'
          have hz2:¬ ((M':Int) < 0):=by omega
          clear hM' hy l1
          go_wp2_with fail
          go_roundw
          case rel => exact ⟨k + 1,M',by omega,by go_num,rfl,by
                have e1:=HM.out;have e2:=HM'.out;have e3:sumN (fun i => szRecD (x i)) (k + 1) = sumN (fun i => szRecD (x i)) k + szRecD (x k):=rfl
                omega,HB.out⟩
          case measure => simp [intOf];omega
      · obtain rfl:k = n:=by omega
        go_wp2;go_ret
        exact ⟨M,rfl,.inr ⟨by
          have e1:=HM.out
          show k + sumN (fun i => szRecD (x i)) k ≤ L
          omega,by
          have e1:=HM.out
          show (M:Int) = (L:Int) - ((k + sumN (fun i => szRecD (x i)) k:Nat):Int)
          omega⟩,hb⟩
set_option maxHeartbeats 4000000 in
theorem szTape_is:SzV layTape szTapeD 54:=fun cs d hi L w r hhi hL => by
  obtain ⟨ao1,cap1,rfl,r1⟩:=Tape_rd r;clear r;unfold szTapeD;have R1:Hid ((layRec.slice 93).rd w hi d.recs [.slice ao1 d.recs.1 cap1]):=r1;clear r1
  go_enter Tryz.func54,Tryz.ntmps54
  go_wp2_with fail
  have T0:=one_new w #[.bool d.wiped,.slice ao1 d.recs.1 cap1] 85;refine (szRecS_is _ d.recs hi L _ ((layRec.slice 93).rd_below R1.out T0.bel hhi) (Nat.le_trans hhi T0.bel.size) (by omega)).mono ?_;rintro e w1 ⟨y1,rfl,s1,b1⟩;have T1:One w w1 #[.bool d.wiped,.slice ao1 d.recs.1 cap1] 85:=T0.call b1;have HB1:Hid (Below w.heap.size w w1):=T1.bel
  rcases s1 with rfl | ⟨l1,hy1⟩
  · clear T1 T0 b1
    go_wp2;go_ret;exact ⟨-1,rfl,.inl rfl,HB1.out⟩
  obtain ⟨M1,hM1⟩:∃ M:Nat,M + (szSl szRecD) d.recs = L:=⟨L - (szSl szRecD) d.recs,by omega⟩
  obtain rfl:y1 = ((M1:Nat):Int):=by omega
  have HM1:Hid (M1 + (szSl szRecD) d.recs = L):=hM1
  have hML1:M1 ≤ L:=by omega
  have hz1:¬ ((M1:Int) < 0):=by omega
  clear hM1 hy1 l1 T0 b1;clear T1;go_wp2;go_ret;exact ⟨M1,rfl,.inr ⟨by have e0:=HM1.out;omega,by have e0:=HM1.out;omega⟩,HB1.out⟩
set_option maxHeartbeats 4000000 in
theorem szTapeS_is:SzS (layTape.slice 90) (szSl szTapeD) 25:=fun v d hi L w h hhi hL => by
  obtain ⟨n,x⟩:=d;obtain ⟨ao,cap,hv,hm,hc⟩:=h
  cases hv
  simp only at hm hc
  unfold maxLen at hm
  by_cases hnL:L < n
  · clear hc
    have hz:(L:Int) - (n:Int) < 0:=by omega
    go_enter Tryz.func25,Tryz.ntmps25
    go_wp2;go_ret;exact ⟨-1,rfl,.inl rfl,Below.refl _ _⟩
  · have hz:¬ (L:Int) - (n:Int) < 0:=by omega
    go_enter Tryz.func25,Tryz.ntmps25
    go_wp2
    go_loopw [1,5] (fun y i wr => ∃ k M:Nat,k ≤ n ∧ i = .int .i64 k ∧ y = .int .i64 M ∧ M + n + sumN (fun i => szTapeD (x i)) k = L ∧ Below w.heap.size w wr) (fun _ i _ => n - (intOf i).toNat)
    case atStart => exact ⟨0,L - n,Nat.zero_le _,rfl,val_eq (by omega),by simp [sumN];omega,Below.refl _ _⟩
    case round =>
      obtain ⟨k,M,hk,rfl,rfl,hM,hb⟩:=hrel;have HM:Hid (M + n + sumN (fun i => szTapeD (x i)) k = L):=hM
      have hML:M ≤ L:=by omega
      clear hM
      by_cases hlt:k < n
      · obtain ⟨b,off,rfl,hblt,hel⟩:=hc (by omega)
        obtain ⟨ck,hrk,hcell⟩:=elem_rd (t:=0) hel hb hhi hblt hlt;obtain ⟨ao1,cap1,rfl,-⟩:=Tape_rd hrk;have c0:wr.cell? ⟨b,off + k * 2,none⟩ = some (.bool (x k).wiped):=hcell 0 (by decide);have c1:wr.cell? ⟨b,off + k * 2 + 1,none⟩ = some (.slice ao1 (x k).recs.1 cap1):=hcell 1 (by decide);clear hc hel hcell
        go_wp2_with fail
        refine (szTape_is _ (x k) hi M _ hrk (Nat.le_trans hhi hb.size) (by omega)).mono ?_;rintro e w2 ⟨y,rfl,s,b2⟩;have HB:Hid (Below w.heap.size w w2):=hb.trans (b2.mono hb.size);clear b2 hb hrk
        rcases s with rfl | ⟨l1,hy⟩
        · go_wp2
          go_ret;exact ⟨-1,rfl,.inl rfl,HB.out⟩
        · obtain ⟨M',hM'⟩:∃ M':Nat,M' + szTapeD (x k) = M:=⟨M - szTapeD (x k),by omega⟩
          obtain rfl:y = (M':Int):=by omega
          have HM':Hid (M' + szTapeD (x k) = M):=hM'
          have hz2:¬ ((M':Int) < 0):=by omega
          clear hM' hy l1
          go_wp2_with fail
          go_roundw
          case rel => exact ⟨k + 1,M',by omega,by go_num,rfl,by
                have e1:=HM.out;have e2:=HM'.out;have e3:sumN (fun i => szTapeD (x i)) (k + 1) = sumN (fun i => szTapeD (x i)) k + szTapeD (x k):=rfl
                omega,HB.out⟩
          case measure => simp [intOf];omega
      · obtain rfl:k = n:=by omega
        go_wp2;go_ret
        exact ⟨M,rfl,.inr ⟨by
          have e1:=HM.out
          show k + sumN (fun i => szTapeD (x i)) k ≤ L
          omega,by
          have e1:=HM.out
          show (M:Int) = (L:Int) - ((k + sumN (fun i => szTapeD (x i)) k:Nat):Int)
          omega⟩,hb⟩
end Go.Proofs.YtbjblbbbafiepaaGreat
namespace Go.Proofs.YtbjblbbbafiepaaGreat
open Go.RowKit F256
set_option maxHeartbeats 4000000 in
theorem szWorld_is:SzV layWorld szWorldD 6:=fun cs d hi L w r hhi hL => by
  obtain ⟨ao1,cap1,ao2,cap2,ao3,cap3,rfl,r1,r2,r3,k0,k4,k5⟩:=World_rd r;clear r;unfold szWorldD;have R1:Hid (((layDrive.slice 98).slice 95).rd w hi d.groups [.slice ao1 d.groups.1 cap1]):=r1;have R2:Hid (layInts.rd w hi d.on [.slice ao2 d.on.1 cap2]):=r2;have R3:Hid ((layTape.slice 90).rd w hi d.tapes [.slice ao3 d.tapes.1 cap3]):=r3;clear r1 r2 r3
  go_enter Tryz.func6,Tryz.ntmps6
  go_wp2_with fail
  have T0:=one_new w #[.int .i64 (d.shape 0),.int .i64 (d.shape 1),.int .i64 (d.shape 2),.int .i64 (d.shape 3),.int .i64 (d.shape 4),.int .i64 (d.shape 5),.int .i64 (d.shape 6),.int .i64 (d.shape 7),.int .i64 (d.shape 8),.slice ao1 d.groups.1 cap1,.slice ao2 d.on.1 cap2,.slice ao3 d.tapes.1 cap3,.int .i64 d.writes,.int .i64 d.stop,.bool d.down] 28;refine (szDriveSS_is _ d.groups hi L _ (((layDrive.slice 98).slice 95).rd_below R1.out T0.bel hhi) (Nat.le_trans hhi T0.bel.size) (by omega)).mono ?_;rintro e w1 ⟨y1,rfl,s1,b1⟩;have T1:One w w1 #[.int .i64 (d.shape 0),.int .i64 (d.shape 1),.int .i64 (d.shape 2),.int .i64 (d.shape 3),.int .i64 (d.shape 4),.int .i64 (d.shape 5),.int .i64 (d.shape 6),.int .i64 (d.shape 7),.int .i64 (d.shape 8),.slice ao1 d.groups.1 cap1,.slice ao2 d.on.1 cap2,.slice ao3 d.tapes.1 cap3,.int .i64 d.writes,.int .i64 d.stop,.bool d.down] 28:=T0.call b1;have x1_10:w1.cell? ⟨w.heap.size,10,none⟩ = some (.slice ao2 d.on.1 cap2):=T1.b1.cell 10;have HB1:Hid (Below w.heap.size w w1):=T1.bel
  rcases s1 with rfl | ⟨l1,hy1⟩
  · clear T1 T0 b1
    go_wp2;go_ret;exact ⟨-1,rfl,.inl rfl,HB1.out⟩
  obtain ⟨M1,hM1⟩:∃ M:Nat,M + (szSl (szSl szDriveD)) d.groups = L:=⟨L - (szSl (szSl szDriveD)) d.groups,by omega⟩
  obtain rfl:y1 = ((M1:Nat):Int):=by omega
  have HM1:Hid (M1 + (szSl (szSl szDriveD)) d.groups = L):=hM1
  have hML1:M1 ≤ L:=by omega
  have hz1:¬ ((M1:Int) < 0):=by omega
  clear hM1 hy1 l1 T0 b1
  go_wp2_with fail
  refine (szInts_is _ d.on hi M1 _ (layInts.rd_below R2.out T1.bel hhi) (Nat.le_trans hhi T1.bel.size) (by omega)).mono ?_;rintro e w2 ⟨y2,rfl,s2,b2⟩;have T2:One w w2 #[.int .i64 (d.shape 0),.int .i64 (d.shape 1),.int .i64 (d.shape 2),.int .i64 (d.shape 3),.int .i64 (d.shape 4),.int .i64 (d.shape 5),.int .i64 (d.shape 6),.int .i64 (d.shape 7),.int .i64 (d.shape 8),.slice ao1 d.groups.1 cap1,.slice ao2 d.on.1 cap2,.slice ao3 d.tapes.1 cap3,.int .i64 d.writes,.int .i64 d.stop,.bool d.down] 28:=T1.call b2;have x2_11:w2.cell? ⟨w.heap.size,11,none⟩ = some (.slice ao3 d.tapes.1 cap3):=T2.b1.cell 11;have HB2:Hid (Below w.heap.size w w2):=T2.bel
  rcases s2 with rfl | ⟨l2,hy2⟩
  · clear T2 T1 b2
    go_wp2;go_ret;exact ⟨-1,rfl,.inl rfl,HB2.out⟩
  obtain ⟨M2,hM2⟩:∃ M:Nat,M + lenD d.on = M1:=⟨M1 - lenD d.on,by omega⟩
  obtain rfl:y2 = ((M2:Nat):Int):=by omega
  have HM2:Hid (M2 + lenD d.on = M1):=hM2
  have hML2:M2 ≤ M1:=by omega
  have hz2:¬ ((M2:Int) < 0):=by omega
  clear hM2 hy2 l2 T1 b2
  go_wp2_with fail
  refine (szTapeS_is _ d.tapes hi M2 _ ((layTape.slice 90).rd_below R3.out T2.bel hhi) (Nat.le_trans hhi T2.bel.size) (by omega)).mono ?_;rintro e w3 ⟨y3,rfl,s3,b3⟩;have T3:One w w3 #[.int .i64 (d.shape 0),.int .i64 (d.shape 1),.int .i64 (d.shape 2),.int .i64 (d.shape 3),.int .i64 (d.shape 4),.int .i64 (d.shape 5),.int .i64 (d.shape 6),.int .i64 (d.shape 7),.int .i64 (d.shape 8),.slice ao1 d.groups.1 cap1,.slice ao2 d.on.1 cap2,.slice ao3 d.tapes.1 cap3,.int .i64 d.writes,.int .i64 d.stop,.bool d.down] 28:=T2.call b3;have HB3:Hid (Below w.heap.size w w3):=T3.bel
  rcases s3 with rfl | ⟨l3,hy3⟩
  · clear T3 T2 b3
    go_wp2;go_ret;exact ⟨-1,rfl,.inl rfl,HB3.out⟩
  obtain ⟨M3,hM3⟩:∃ M:Nat,M + (szSl szTapeD) d.tapes = M2:=⟨M2 - (szSl szTapeD) d.tapes,by omega⟩
  obtain rfl:y3 = ((M3:Nat):Int):=by omega
  have HM3:Hid (M3 + (szSl szTapeD) d.tapes = M2):=hM3
  have hML3:M3 ≤ M2:=by omega
  have hz3:¬ ((M3:Int) < 0):=by omega
  clear hM3 hy3 l3 T2 b3;clear T3;go_wp2;go_ret;exact ⟨M3,rfl,.inr ⟨by have e0:=HM1.out;have e1:=HM2.out;have e2:=HM3.out;omega,by have e0:=HM1.out;have e1:=HM2.out;have e2:=HM3.out;omega⟩,HB3.out⟩
end Go.Proofs.YtbjblbbbafiepaaGreat
namespace Go.Proofs.YtbjblbbbafiepaaGreat
open Go.RowKit F256
def nameByte (b:ByteArray) (i:Nat):Nat:=if h:i < b.size then (b[i]'h).toNat else 0
theorem index_name (b:ByteArray) (i:Nat) (h:i < b.size) (w:World):(Instr.index 9 (.string b) (.int .i64 (i:Int))).run Tryz.prog w = .ok (.int .u8 (nameByte b i)) w:=by
  rw [run_index_string w 9 b .i64 (i:Int) Tryz.underlying9,dif_pos ⟨by omega,by omega⟩]
  simp [nameByte,h]
def LetP (y:Nat):Prop:=97 ≤ y ∧ y ≤ 122
def DigP (y:Nat):Prop:=48 ≤ y ∧ y ≤ 57
def OkName (b:ByteArray):Prop:=1 ≤ b.size ∧ b.size ≤ 8 ∧ LetP (nameByte b 0) ∧ ∀ i,i < b.size → LetP (nameByte b i) ∨ DigP (nameByte b i)
def NmAns (b:ByteArray) (x:Int):Prop:=(x = 5 ∧ ¬ OkName b) ∨ (x = 0 ∧ OkName b)
set_option maxHeartbeats 4000000 in
theorem specName_any (b:ByteArray) (hb:b.size ≤ 1048576) (w:World) :
    Calls Tryz.prog 89 #[.string b] w fun e w' => ∃ x,e = .returned (.int .i64 x) ∧ NmAns b x ∧ w' = w:=by
  by_cases h1:1 ≤ b.size
  · have t1:decide ((b.size:Int) < 1) = false:=by simp;omega
    have t1n:decide (b.size < 1) = false:=decide_eq_false (by omega);have t1z:decide (b.size = 0) = false:=decide_eq_false (by omega)
    by_cases h2:b.size ≤ 8
    · have t2:decide ((8:Int) < (b.size:Int)) = false:=by simp;omega
      have t2n:decide (8 < b.size) = false:=by simp;omega
      have hix:=index_name b 0 h1;have e0:((0:Nat):Int) = 0:=rfl;rw [e0] at hix;obtain ⟨y,hy⟩:∃ y,y = nameByte b 0:=⟨_,rfl⟩;rw [← hy] at hix;have HY:Hid (y = nameByte b 0):=hy;clear e0 hy
      by_cases h3:y < 97
      · have HN:Hid (¬ OkName b):=fun h => by have:=h.2.2.1.1;rw [← HY.out] at this;omega
        have t3:decide ((y:Int) < 97) = true:=by simp;omega
        go_enter Tryz.func89,Tryz.ntmps89
        go_wp2;go_ret;exact ⟨5,rfl,.inl ⟨rfl,HN.out⟩,rfl⟩
      · have t3:decide ((y:Int) < 97) = false:=by simp;omega
        have t3n:decide (y < 97) = false:=by simp;omega
        by_cases h4:122 < y
        · have HN:Hid (¬ OkName b):=fun h => by have:=h.2.2.1.2;rw [← HY.out] at this;omega
          have t4:decide ((122:Int) < (y:Int)) = true:=by simp;omega
          clear h3
          go_enter Tryz.func89,Tryz.ntmps89
          go_wp2;go_ret;exact ⟨5,rfl,.inl ⟨rfl,HN.out⟩,rfl⟩
        · have t4:decide ((122:Int) < (y:Int)) = false:=by simp;omega
          have t4n:decide (122 < y) = false:=by simp;omega
          have HL:Hid (LetP (nameByte b 0)):=by show LetP (nameByte b 0);rw [← HY.out];exact ⟨by omega,by omega⟩
          clear h3 h4
          go_enter Tryz.func89,Tryz.ntmps89
          go_wp2
          go_loop [3] (fun i => ∃ k:Nat,k ≤ b.size ∧ i = .int .i64 k ∧ ∀ i,i < k → LetP (nameByte b i) ∨ DigP (nameByte b i)) (fun i => b.size - (intOf i).toNat)
          case atStart => exact ⟨0,Nat.zero_le _,rfl,fun i hi => by omega⟩
          case round =>
            obtain ⟨k,hk,rfl,hall⟩:=hrel;have HALL:Hid (∀ i,i < k → LetP (nameByte b i) ∨ DigP (nameByte b i)):=hall;clear hall
            by_cases hlt:k < b.size
            · have hik:=index_name b k hlt
              obtain ⟨z,hz⟩:∃ z,z = nameByte b k:=⟨_,rfl⟩;rw [← hz] at hik;have HZ:Hid (z = nameByte b k):=hz;clear hz
              by_cases c1:z < 97
              · have s1:decide ((z:Int) < 97) = true:=by simp;omega
                by_cases c3:z < 48
                · have s3:decide ((z:Int) < 48) = true:=by simp;omega
                  have HN:Hid (¬ OkName b):=fun h => by
                    have:=h.2.2.2 k hlt;rw [← HZ.out] at this;unfold LetP DigP at this;omega
                  go_wp2;go_ret;exact ⟨5,rfl,.inl ⟨rfl,HN.out⟩,rfl⟩
                · have s3:decide ((z:Int) < 48) = false:=by simp;omega
                  have s3n:decide (z < 48) = false:=by simp;omega
                  by_cases c4:57 < z
                  · have s4:decide ((57:Int) < (z:Int)) = true:=by simp;omega
                    have HN:Hid (¬ OkName b):=fun h => by
                      have:=h.2.2.2 k hlt;rw [← HZ.out] at this;unfold LetP DigP at this;omega
                    clear c3;go_wp2;go_ret;exact ⟨5,rfl,.inl ⟨rfl,HN.out⟩,rfl⟩
                  · have s4:decide ((57:Int) < (z:Int)) = false:=by simp;omega
                    have s4n:decide (57 < z) = false:=by simp;omega
                    have HD:Hid (DigP (nameByte b k)):=by show DigP (nameByte b k);rw [← HZ.out];exact ⟨by omega,by omega⟩
                    clear c3 c4;go_wp2
                    go_round
                    case rel => exact ⟨k + 1,by omega,by go_num,fun i hi => by
                                  by_cases c:i = k
                                  · right;rw [c];exact HD.out
                                  · exact HALL.out i (by omega)⟩
                    case measure => simp [intOf];omega
              · have s1:decide ((z:Int) < 97) = false:=by simp;omega
                have s1n:decide (z < 97) = false:=by simp;omega
                by_cases c2:122 < z
                · have s2:decide ((122:Int) < (z:Int)) = true:=by simp;omega
                  have s3:decide ((z:Int) < 48) = false:=by simp;omega
                  have s3n:decide (z < 48) = false:=by simp;omega
                  have s4:decide ((57:Int) < (z:Int)) = true:=by simp;omega
                  have HN:Hid (¬ OkName b):=fun h => by
                    have:=h.2.2.2 k hlt;rw [← HZ.out] at this;unfold LetP DigP at this;omega
                  clear c1;go_wp2;go_ret;exact ⟨5,rfl,.inl ⟨rfl,HN.out⟩,rfl⟩
                · have s2:decide ((122:Int) < (z:Int)) = false:=by simp;omega
                  have s2n:decide (122 < z) = false:=by simp;omega
                  have HD:Hid (LetP (nameByte b k)):=by show LetP (nameByte b k);rw [← HZ.out];exact ⟨by omega,by omega⟩
                  clear c1 c2;go_wp2
                  go_round
                  case rel => exact ⟨k + 1,by omega,by go_num,fun i hi => by
                                by_cases c:i = k
                                · left;rw [c];exact HD.out
                                · exact HALL.out i (by omega)⟩
                  case measure => simp [intOf];omega
            · obtain rfl:k = b.size:=by omega
              have HY2:Hid (OkName b):=⟨h1,h2,HL.out,HALL.out⟩;go_wp2;go_ret;exact ⟨0,rfl,.inr ⟨rfl,HY2.out⟩,rfl⟩
    · have HN:Hid (¬ OkName b):=fun h => h2 h.2.1
      have t2:decide ((8:Int) < (b.size:Int)) = true:=by simp;omega
      have t2i:(8:Int) < (b.size:Int):=by omega
      clear h2
      go_enter Tryz.func89,Tryz.ntmps89
      go_wp2;go_ret;exact ⟨5,rfl,.inl ⟨rfl,HN.out⟩,rfl⟩
  · have HN:Hid (¬ OkName b):=fun h => h1 h.1
    have t1:decide ((b.size:Int) < 1) = true:=by simp;omega
    have t1i:(b.size:Int) < 1:=by omega
    clear h1
    go_enter Tryz.func89,Tryz.ntmps89
    go_wp2;go_ret;exact ⟨5,rfl,.inl ⟨rfl,HN.out⟩,rfl⟩
end Go.Proofs.YtbjblbbbafiepaaGreat
namespace Go.Proofs.YtbjblbbbafiepaaGreat
open Go.RowKit F256
def InP (x a b:Int):Prop:=a ≤ x ∧ x ≤ b
def ApartP (n:Nat) (g:Nat → Int) (most:Int):Prop:=∀ i,i < n → InP (g i) 0 most ∧ ∀ t,t < i → g t ≠ g i
def ItemP (s:Nat → Int) (r:RecD):Prop :=
  (r.length = -1 ∧ r.data.1 = 0 ∧ r.rows.1 = 0) ∨
  (r.length ≠ -1 ∧ 1 ≤ r.length ∧ r.length ≤ 3 * (s 2 * 4) ∧
    ((0 < r.data.1 ∧ (r.data.1:Int) = r.length ∧ r.rows.1 = 0) ∨
     (r.data.1 = 0 ∧ (r.rows.1:Int) = (r.length + s 2 * 4 - 1) / (s 2 * 4) ∧ ApartP r.rows.1 r.rows.2 (s 4 - 1))))
def MoveP (s:Nat → Int) (r:RecD):Prop:=InP r.group 0 (s 0 - 1) ∧ InP r.row 0 (s 4 - 1) ∧ (r.data.1:Int) = s 2 * 4 ∧ (r.delta.1:Int) = s 2 * 4
def DoneP (s:Nat → Int) (r:RecD):Prop:=InP r.group 0 (s 0 + s 1 - 1)
def WeightsP (s:Nat → Int) (r:RecD):Prop:=(r.delta.1:Int) = s 0 + s 1 ∧ r.delta.2 r.group.toNat = 0 ∧ ∀ i,i < r.rows.1 → r.delta.2 (r.rows.2 i).toNat ≠ 0
def ShareP (s:Nat → Int) (r:RecD):Prop:=InP r.group 0 (s 0 + s 1 - 1) ∧ InP r.row 0 (s 4 - 1) ∧ RiseP r.rows.1 r.rows.2 (s 0 + s 1 - 1) ∧ (r.data.1:Int) = s 2 * 4 ∧ WeightsP s r
def KindP (s:Nat → Int) (r:RecD):Prop:=(r.kind = 1 ∧ ItemP s r) ∨ (r.kind = 2 ∧ MoveP s r) ∨ (r.kind = 3 ∧ DoneP s r) ∨ (r.kind = 4 ∧ ShareP s r)
def noName (r:RecD):Prop:=r.name = ByteArray.empty ∧ r.length = 0
def BlankP (r:RecD):Prop :=
  (r.kind = 1 ∧ r.group = 0 ∧ r.row = 0 ∧ r.delta.1 = 0) ∨ (r.kind = 2 ∧ noName r ∧ r.rows.1 = 0) ∨
  (r.kind = 3 ∧ noName r ∧ r.row = 0 ∧ r.rows.1 = 0 ∧ r.data.1 = 0 ∧ r.delta.1 = 0) ∨ (r.kind = 4 ∧ noName r)
def NamedP (r:RecD):Prop:=r.kind = 1 → OkName r.name
def Stair:List (Prop × Int) → (Int → Prop) → Int → Prop
  | [],K,x => K x
  | (p,c) :: l,K,x => (¬ p ∧ x = c) ∨ (p ∧ Stair l K x)
theorem Stair.fall {p:Prop} {c:Int} {l:List (Prop × Int)} {K:Int → Prop} (h:¬ p):Stair ((p,c) :: l) K c:=.inl ⟨h,rfl⟩
theorem Stair.pass {p:Prop} {c:Int} {l:List (Prop × Int)} {K:Int → Prop} {x:Int} (h:p) (k:Stair l K x):Stair ((p,c) :: l) K x:=.inr ⟨h,k⟩
theorem Stair.last {K:Int → Prop} {x:Int} (h:K x):Stair [] K x:=h
theorem Stair.one {K:Int → Prop} (hK:∀ x y,K x → K y → x = y):∀ (l:List (Prop × Int)) {x y:Int},Stair l K x → Stair l K y → x = y
  | [],x,y,h,k => hK x y h k
  | (p,c) :: l,x,y,h,k => by
    rcases h with ⟨h1,h2⟩ | ⟨h1,h2⟩ <;> rcases k with ⟨k1,k2⟩ | ⟨k1,k2⟩
    · rw [h2,k2]
    · exact absurd k1 h1
    · exact absurd h1 k1
    · exact Stair.one hK l h2 k2
def isZ (x:Int):Prop:=x = 0
theorem isZ_one (x y:Int) (h:isZ x) (k:isZ y):x = y:=by rw [show x = 0 from h,show y = 0 from k]
def RecAns (s:Nat → Int) (r:RecD) (x:Int):Prop :=
  Stair [(OkShape s,3),(InP r.kind 1 4,5),(InP r.seq 1 1000000000,3),(NamedP r,5),(KindP s r,3),(BlankP r,1)] isZ x
theorem RecAns.one {s:Nat → Int} {r:RecD} {x y:Int} (h:RecAns s r x) (k:RecAns s r y):x = y:=Stair.one isZ_one _ h k
def BlockP (b:BlockD):Prop:=InP b.stamp 0 1000000000 ∧ b.bytes.1 = 4
def BlocksP (s:Nat → Int) (p:Nat × (Nat → BlockD)):Prop:=(p.1:Int) = s 4 ∧ ∀ i,i < p.1 → BlockP (p.2 i)
def DrivesP (s:Nat → Int) (p:Nat × (Nat → DriveD)):Prop:=(p.1:Int) = s 2 + s 3 ∧ ∀ i,i < p.1 → BlocksP s (p.2 i).blocks
def BuiltP (d:WorldD):Prop:=(d.groups.1:Int) = d.shape 0 + d.shape 1 ∧ ∀ i,i < d.groups.1 → DrivesP d.shape (d.groups.2 i)
def OnP (d:WorldD):Prop:=ApartP d.on.1 d.on.2 (d.shape 0 + d.shape 1 - 1) ∧ (d.on.1:Int) ≤ d.shape 5 ∧ (d.down = true → d.on.1 = 0)
def FormP (d:WorldD):Prop:=BuiltP d ∧ OnP d ∧ d.tapes.1 = 2
def FewP (d:WorldD):Prop:=∀ t,t < d.tapes.1 → (d.tapes.2 t).recs.1 ≤ 200
def RecsAns (s:Nat → Int) (n:Nat) (x:Nat → TapeD) (c:Int):Prop :=
  (c = 0 ∧ ∀ t,t < n → ∀ i,i < (x t).recs.1 → RecAns s ((x t).recs.2 i) 0) ∨
  (c ≠ 0 ∧ ∃ t i,t < n ∧ i < (x t).recs.1 ∧ RecAns s ((x t).recs.2 i) c ∧ (∀ k,k < i → RecAns s ((x t).recs.2 k) 0) ∧ ∀ u,u < t → ∀ k,k < (x u).recs.1 → RecAns s ((x u).recs.2 k) 0)
theorem RecsAns.one {s:Nat → Int} {n:Nat} {x:Nat → TapeD} {c e:Int} (h:RecsAns s n x c) (k:RecsAns s n x e):c = e:=by
  rcases h with ⟨rfl,h⟩ | ⟨hc,t,i,ht,hi,hr,hb,hu⟩ <;> rcases k with ⟨rfl,k⟩ | ⟨kc,t',i',kt,ki,kr,kb,ku⟩
  · rfl
  · exact absurd (kr.one (h t' kt i' ki)) kc
  · exact absurd (hr.one (k t ht i hi)) hc
  · rcases Nat.lt_trichotomy t t' with c1 | c1 | c1
    · exact absurd (hr.one (ku t c1 i hi)) hc
    · subst c1
      rcases Nat.lt_trichotomy i i' with c2 | c2 | c2
      · exact absurd (hr.one (kb i c2)) hc
      · subst c2;exact hr.one kr
      · exact absurd (kr.one (hb i' c2)) kc
    · exact absurd (kr.one (hu t' c1 i' ki)) kc
def CleanP (d:WorldD):Prop:=∀ t,t < d.tapes.1 → (d.tapes.2 t).wiped = true → (d.tapes.2 t).recs.1 = 0
def CountP (d:WorldD):Prop:=InP d.writes 0 1000000000 ∧ InP d.stop (-1) 1000000000
def WldAns (d:WorldD) (x:Int):Prop :=
  Stair [(OkShape d.shape,3),(FormP d,1),(FewP d,2)] (fun x => (x ≠ 0 ∧ RecsAns d.shape d.tapes.1 d.tapes.2 x) ∨ (RecsAns d.shape d.tapes.1 d.tapes.2 0 ∧ Stair [(CleanP d,1),(CountP d,3)] isZ x)) x
theorem WldAns.one {d:WorldD} {x y:Int} (h:WldAns d x) (k:WldAns d y):x = y:=by
  refine Stair.one (fun x y h k => ?_) _ h k
  rcases h with ⟨h1,h2⟩ | ⟨h1,h2⟩ <;> rcases k with ⟨k1,k2⟩ | ⟨k1,k2⟩
  · exact h2.one k2
  · exact absurd (h2.one k1) h1
  · exact absurd (k2.one h1) k1
  · exact Stair.one isZ_one _ h2 k2
structure OkWorld (d:WorldD):Prop where
  shape:OkShape d.shape
  form:FormP d
  few:FewP d
  recs:∀ t,t < d.tapes.1 → ∀ i,i < (d.tapes.2 t).recs.1 → RecAns d.shape ((d.tapes.2 t).recs.2 i) 0
  clean:CleanP d
  count:CountP d
theorem WldAns.ok {d:WorldD} (h:WldAns d 0):OkWorld d:=by
  rcases h with ⟨_,h⟩ | ⟨h1,h⟩
  · omega
  rcases h with ⟨_,h⟩ | ⟨h2,h⟩
  · omega
  rcases h with ⟨_,h⟩ | ⟨h3,h⟩
  · omega
  rcases h with ⟨h,_⟩ | ⟨h4,h⟩
  · exact absurd rfl h
  rcases h with ⟨_,h⟩ | ⟨h5,h⟩
  · omega
  rcases h with ⟨_,h⟩ | ⟨h6,h⟩
  · omega
  rcases h4 with ⟨_,h4⟩ | ⟨h4,_⟩
  · exact ⟨h1,h2,h3,h4,h5,h6⟩
  · exact absurd rfl h4
theorem exB (P:Prop):∃ b:Bool,b = true ↔ P:=by
  by_cases h:P
  · exact ⟨true,by simp [h]⟩
  · exact ⟨false,by simp [h]⟩
end Go.Proofs.YtbjblbbbafiepaaGreat
namespace Go.Proofs.YtbjblbbbafiepaaGreat
open Go.RowKit F256
def intR (code value:Int):Value:=.agg #[.int .i64 code,.int .i64 value]
theorem eqInt_same (c v:Int) (w:World) :
    Calls Tryz.prog 17 #[intR c v,intR c v] w fun e w' => e = .returned (.bool true) ∧ Below w.heap.size w w':=by
  unfold intR
  go_enter Tryz.func17,Tryz.ntmps17
  go_wp2;go_ret;exact ⟨rfl,((Below.refl _ _).alloc (Nat.le_refl _) _).alloc (by simp) _⟩
end Go.Proofs.YtbjblbbbafiepaaGreat
namespace Go.Proofs.YtbjblbbbafiepaaGreat
open Go.RowKit F256
set_option maxHeartbeats 1000000 in
theorem l1Has_any (v:Value) (n:Nat) (g:Nat → Int) (hi:Nat) (x:Int) (w:World) (r:RdI w hi v n g) :
    Calls Tryz.prog 76 #[v,.int .i64 x] w (BoolP (HasP n g x) w):=by
  obtain ⟨ao,cap,rfl,hm,hc⟩:=r;unfold maxLen at hm
  go_enter Tryz.func76,Tryz.ntmps76
  go_wp2
  go_loop [5] (fun i => ∃ k:Nat,k ≤ n ∧ i = .int .i64 k ∧ ∀ i,i < k → g i ≠ x) (fun i => n - (intOf i).toNat)
  case atStart => exact ⟨0,Nat.zero_le _,rfl,fun i hi => by omega⟩
  case round =>
    obtain ⟨k,hk,rfl,hall⟩:=hrel;have HALL:Hid (∀ i,i < k → g i ≠ x):=hall;clear hall
    by_cases hlt:k < n
    · obtain ⟨b,off,rfl,hblt,hcell⟩:=hc (by omega)
      have hck:w.cell? ⟨b,off + k,none⟩ = some (.int .i64 (g k)):=hcell k hlt;obtain ⟨y,hy⟩:∃ y,y = g k:=⟨_,rfl⟩;have HY:Hid (y = g k):=hy;rw [← hy] at hck;clear hc hcell hy
      by_cases heq:y = x
      · have tn:(y == x) = true:=by simp [heq]
        have HE:Hid (y = x):=heq;clear heq;go_wp2;go_ret;exact boolYes rfl ⟨k,hlt,by rw [← HY.out];exact HE.out⟩ (Below.refl _ _)
      · have tn:(y == x) = false:=by simp [heq]
        have HE:Hid (y ≠ x):=heq;clear heq;go_wp2
        go_round
        case rel => exact ⟨k + 1,by omega,by go_num,fun i hi => by
                      by_cases c:i = k
                      · rw [c,← HY.out];exact HE.out
                      · exact HALL.out i (by omega)⟩
        case measure => simp [intOf];omega
    · obtain rfl:k = n:=by omega
      go_wp2;go_ret;exact boolNo rfl (fun ⟨i,hi,h⟩ => HALL.out i hi h) (Below.refl _ _)
end Go.Proofs.YtbjblbbbafiepaaGreat
namespace Go.Proofs.YtbjblbbbafiepaaGreat
open Go.RowKit F256
theorem q_below {f:Nat} {args:Array Value} {W:World} {v:Value} (h:∀ w',Below W.heap.size W w' → Calls Tryz.prog f args w' fun e w'' => e = .returned v ∧ Below w'.heap.size w' w'') :
    ∀ d os,Calls Tryz.prog f args (Go.Sort.grow (redrawn W d) os) fun e w'' => e = .returned v ∧ ∃ p:Regrown,w'' = Go.Sort.grow (redrawn W p.d) p.os:=fun d os => Calls.regrown_of (h _ (below_regrown W d os))
theorem q_same {f:Nat} {args:Array Value} {W:World} {v:Value} (h:∀ w',Calls Tryz.prog f args w' fun e w'' => e = .returned v ∧ w'' = w') :
    ∀ d os,Calls Tryz.prog f args (Go.Sort.grow (redrawn W d) os) fun e w'' => e = .returned v ∧ ∃ p:Regrown,w'' = Go.Sort.grow (redrawn W p.d) p.os :=
  q_below fun w' _ => (h w').mono fun e w'' ⟨h1,h2⟩ => ⟨h1,by rw [h2];exact Below.refl _ _⟩
theorem det_b {f:Nat} {args:Array Value} {w:World} {P:Prop} {b:Bool} (h:Calls Tryz.prog f args w (BoolP P w)) (hb:b = true ↔ P):Calls Tryz.prog f args w fun e w' => e = .returned (.bool b) ∧ Below w.heap.size w w' :=
  h.mono fun e w' ⟨b',h1,h2,h3⟩ => ⟨by rw [h1];congr 2;cases b <;> cases b' <;> simp_all,h3⟩
theorem l1In_b {v a b:Int} {t:Bool} (ht:t = true ↔ InP v a b) (w:World) :
    Calls Tryz.prog 59 #[.int .i64 v,.int .i64 a,.int .i64 b] w fun e w' => e = .returned (.bool t) ∧ w' = w:=by
  cases t with
  | true => exact l1In_yes v a b (ht.1 rfl).1 (ht.1 rfl).2 w
  | false =>
    have:¬ InP v a b:=fun h => by have:=ht.2 h;cases this
    exact l1In_no v a b (by unfold InP at this;omega) w
theorem below_rg {W w':World} (h:∃ p:Regrown,w' = Go.Sort.grow (redrawn W p.d) p.os):Below W.heap.size W w':=by
  obtain ⟨p,rfl⟩:=h;exact below_regrown W p.d p.os
structure WQ (P:Program) (ops:Array Oper) (C:World → Prop) (Q:Act → Prop) (l:List Oper) (a:Act):Prop where
  out:wpQuiet P ops C Q l a
theorem WQ.skip {P:Program} {ops:Array Oper} {C:World → Prop} {Q:Act → Prop} {a:Act} {o:Oper} {rest:List Oper} (hw:Region.wanted o (yielded ops a.tmps) = false)
    (h:∀ K:Act → Prop,(∀ a,WQ P ops C Q rest a → K a) → K (a.put o.dst undef)):WQ P ops C Q (o :: rest) a:=by
  refine ⟨?_⟩;unfold wpQuiet;rw [if_neg (by rw [hw];decide)];exact (h _ (fun _ h => h)).out
theorem WQ.want {P:Program} {ops:Array Oper} {C:World → Prop} {Q:Act → Prop} {a:Act} {o:Oper} {rest:List Oper} (hw:Region.wanted o (yielded ops a.tmps) = true)
    (h:∀ K:Act → Prop,(∀ a,WQ P ops C Q rest a → K a) → o.quiet P a C K):WQ P ops C Q (o :: rest) a:=by
  refine ⟨?_⟩;unfold wpQuiet;rw [if_pos hw];exact Oper.quiet_mono (fun a h => h.out) (h _ (fun _ h => h))
theorem WQ.nil {P:Program} {ops:Array Oper} {C:World → Prop} {Q:Act → Prop} {a:Act} (h:Q a):WQ P ops C Q [] a:=⟨wpQuiet_nil h⟩
theorem WQ.region {P:Program} {id:Nat} {Q:Exit → Act → World → Prop} {a:Act} {w:World} {l:List Oper} (hm:P.follows .mixedOrders = true) (hB:Region.lexB .any l.toArray = true)
    (h:WQ P l.toArray (fun w' => ∃ p:Regrown,w' = Go.Sort.grow (redrawn w p.d) p.os) (fun a' => ∀ w',(∃ p:Regrown,w' = Go.Sort.grow (redrawn w p.d) p.os) → Q .normal a' w') l a):(Code.region id l.toArray true).wp P Q a w:=wp_region_quiet_below hm hB h.out
end Go.Proofs.YtbjblbbbafiepaaGreat