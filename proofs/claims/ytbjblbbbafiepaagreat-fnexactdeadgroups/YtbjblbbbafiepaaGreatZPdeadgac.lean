/- Columns, shares and the answers of chapter 3, as plain definitions. No Go in sight. -/
import Derived.Test.YtbjblbbbafiepaaGreatZPdeadgab
import Derived.Test.YtbjblbbbafiepaaGreatZPdeadgaa
import Derived.Deep.RegionLaw
set_option linter.unusedVariables false
set_option linter.unusedSimpArgs false
namespace Go.Proofs.YtbjblbbbafiepaaGreat
open F256
def Shp3 (d s:Int):Prop:=1 ≤ d ∧ d ≤ 4 ∧ 0 ≤ s ∧ s ≤ 2
def HasP (n:Nat) (g:Nat → Int) (x:Int):Prop:=∃ i,i < n ∧ g i = x
end Go.Proofs.YtbjblbbbafiepaaGreat
namespace Go.Proofs.YtbjblbbbafiepaaGreat
open Go.RowKit F256
structure BldO (wr:World) (lo hi:Nat) (v:Value) (k:Nat) (n:Nat → Nat) (f:Mat) (e:Nat → Value):Prop where
  row:wr.ownsRow lo 49 1 v k (valsOf k e)
  low:∀ b,v.ownBlock = some b → b < hi
  each:∀ i,i < k → Own wr lo hi (e i) (n i) (f i)
  apart:∀ i j,i < k → j < k → i ≠ j → ∀ b,(e i).ownBlock = some b → (e j).ownBlock ≠ some b
  le:lo ≤ hi
  le2:hi ≤ wr.heap.size
end Go.Proofs.YtbjblbbbafiepaaGreat
namespace Go.Proofs.YtbjblbbbafiepaaGreat
open Go.RowKit F256
theorem l3Shape_any (d s:Int) (w:World) :
    Calls Tryz.prog 86 #[.int .i64 d,.int .i64 s] w (BoolP (Shp3 d s) w):=by
  by_cases h1:1 ≤ d ∧ d ≤ 4
  · by_cases h2:0 ≤ s ∧ s ≤ 2
    · go_enter Tryz.func86,Tryz.ntmps86
      go_wp2_with fail
      refine (l1In_yes d 1 4 h1.1 h1.2 _).mono ?_;rintro e w1 ⟨rfl,rfl⟩
      go_wp2_with fail
      refine (l1In_yes s 0 2 h2.1 h2.2 _).mono ?_;rintro e w1 ⟨rfl,rfl⟩;go_wp2;go_ret;exact boolYes rfl ⟨h1.1,h1.2,h2.1,h2.2⟩ (Below.refl _ _)
    · go_enter Tryz.func86,Tryz.ntmps86
      go_wp2_with fail
      refine (l1In_yes d 1 4 h1.1 h1.2 _).mono ?_;rintro e w1 ⟨rfl,rfl⟩
      go_wp2_with fail
      refine (l1In_no s 0 2 (by omega) _).mono ?_;rintro e w1 ⟨rfl,rfl⟩;go_wp2;go_ret;exact boolNo rfl (fun h => h2 ⟨h.2.2.1,h.2.2.2⟩) (Below.refl _ _)
  · go_enter Tryz.func86,Tryz.ntmps86
    go_wp2_with fail
    refine (l1In_no d 1 4 (by omega) _).mono ?_;rintro e w1 ⟨rfl,rfl⟩;go_wp2;go_ret;exact boolNo rfl (fun h => h1 ⟨h.1,h.2.1⟩) (Below.refl _ _)
end Go.Proofs.YtbjblbbbafiepaaGreat
namespace Go.Proofs.YtbjblbbbafiepaaGreat
open Go.RowKit F256
set_option maxHeartbeats 2000000 in
theorem toShape_any (s:Nat → Int) (w:World) :
    Calls Tryz.prog 29 #[shapeV s] w fun e w' => e = .returned (shapeV s) ∧ Below w.heap.size w w':=by
  unfold shapeV;obtain ⟨a0,h0⟩:∃ a,a = s 0:=⟨_,rfl⟩;obtain ⟨a1,h1⟩:∃ a,a = s 1:=⟨_,rfl⟩;obtain ⟨a2,h2⟩:∃ a,a = s 2:=⟨_,rfl⟩;obtain ⟨a3,h3⟩:∃ a,a = s 3:=⟨_,rfl⟩;obtain ⟨a4,h4⟩:∃ a,a = s 4:=⟨_,rfl⟩;obtain ⟨a5,h5⟩:∃ a,a = s 5:=⟨_,rfl⟩;obtain ⟨a6,h6⟩:∃ a,a = s 6:=⟨_,rfl⟩;obtain ⟨a7,h7⟩:∃ a,a = s 7:=⟨_,rfl⟩;obtain ⟨a8,h8⟩:∃ a,a = s 8:=⟨_,rfl⟩;rw [← h0,← h1,← h2,← h3,← h4,← h5,← h6,← h7,← h8];clear h0 h1 h2 h3 h4 h5 h6 h7 h8
  go_enter Tryz.func29,Tryz.ntmps29
  go_wp2;refine bodyPost_ret (v:=.agg #[.int .i64 a0,.int .i64 a1,.int .i64 a2,.int .i64 a3,.int .i64 a4,.int .i64 a5,.int .i64 a6,.int .i64 a7,.int .i64 a8]) (by simp [results,Tryz.results29,go_sem]) rfl ⟨rfl,?_⟩;exact (((Below.refl _ _).alloc (Nat.le_refl _) _).alloc (by simp) _).alloc (by simp <;> omega) _
def OkShape (s:Nat → Int):Prop:=Shp3 (s 0) (s 1) ∧ Shp (s 2) (s 3) ∧ (1 ≤ s 4 ∧ s 4 ≤ 6) ∧ (1 ≤ s 5 ∧ s 5 ≤ 6) ∧ (1 ≤ s 6 ∧ s 6 ≤ 4) ∧ (1 ≤ s 7 ∧ s 7 ≤ 6) ∧ (0 ≤ s 8 ∧ s 8 ≤ 400)
def ShFAns (s:Nat → Int) (x:Int):Prop:=(x = 3 ∧ ¬ OkShape s) ∨ (x = 0 ∧ OkShape s)
theorem box9 {w:World} {b:Nat} {t:TypeId} {a0 a1 a2 a3 a4 a5 a6 a7 a8:Value} (h:Box w b #[a0,a1,a2,a3,a4,a5,a6,a7,a8] t) :
    w.cell? ⟨b,0,none⟩ = some a0 ∧ w.cell? ⟨b,1,none⟩ = some a1 ∧ w.cell? ⟨b,2,none⟩ = some a2 ∧ w.cell? ⟨b,3,none⟩ = some a3 ∧ w.cell? ⟨b,4,none⟩ = some a4 ∧ w.cell? ⟨b,5,none⟩ = some a5 ∧ w.cell? ⟨b,6,none⟩ = some a6 ∧ w.cell? ⟨b,7,none⟩ = some a7 ∧ w.cell? ⟨b,8,none⟩ = some a8 :=
  ⟨h.cell 0,h.cell 1,h.cell 2,h.cell 3,h.cell 4,h.cell 5,h.cell 6,h.cell 7,h.cell 8⟩
set_option maxHeartbeats 4000000 in
theorem specShape_any (s:Nat → Int) (w:World) :
    Calls Tryz.prog 55 #[shapeV s] w fun e w' => ∃ x,e = .returned (.int .i64 x) ∧ ShFAns s x ∧ Below w.heap.size w w':=by
  unfold shapeV;have HOK:Hid (OkShape s ↔ OkShape s):=Iff.rfl;unfold OkShape at HOK;obtain ⟨a0,h0⟩:∃ a,a = s 0:=⟨_,rfl⟩;obtain ⟨a1,h1⟩:∃ a,a = s 1:=⟨_,rfl⟩;obtain ⟨a2,h2⟩:∃ a,a = s 2:=⟨_,rfl⟩;obtain ⟨a3,h3⟩:∃ a,a = s 3:=⟨_,rfl⟩;obtain ⟨a4,h4⟩:∃ a,a = s 4:=⟨_,rfl⟩;obtain ⟨a5,h5⟩:∃ a,a = s 5:=⟨_,rfl⟩;obtain ⟨a6,h6⟩:∃ a,a = s 6:=⟨_,rfl⟩;obtain ⟨a7,h7⟩:∃ a,a = s 7:=⟨_,rfl⟩;obtain ⟨a8,h8⟩:∃ a,a = s 8:=⟨_,rfl⟩
  have HIFF:Hid (OkShape s ↔ (Shp3 a0 a1 ∧ Shp a2 a3 ∧ (1 ≤ a4 ∧ a4 ≤ 6) ∧ (1 ≤ a5 ∧ a5 ≤ 6) ∧ (1 ≤ a6 ∧ a6 ≤ 4) ∧ (1 ≤ a7 ∧ a7 ≤ 6) ∧ (0 ≤ a8 ∧ a8 ≤ 400))):=by
    show OkShape s ↔ _
    rw [h0,h1,h2,h3,h4,h5,h6,h7,h8];exact Iff.rfl
  rw [← h0,← h1,← h2,← h3,← h4,← h5,← h6,← h7,← h8];clear h0 h1 h2 h3 h4 h5 h6 h7 h8 HOK
  go_enter Tryz.func55,Tryz.ntmps55
  go_wp2_with fail
  refine (l3Shape_any a0 a1 _).mono ?_;rintro e w1 ⟨b1,rfl,hb1,b1'⟩;have X1:Box w1 w.heap.size #[.int .i64 a0,.int .i64 a1,.int .i64 a2,.int .i64 a3,.int .i64 a4,.int .i64 a5,.int .i64 a6,.int .i64 a7,.int .i64 a8] 33:=(box_new w _ _).below b1' (by simp);have B1:Below w.heap.size w w1:=bnew b1';have H1:Hid (b1 = true ↔ Shp3 a0 a1):=hb1;have z1:=X1.lt;obtain ⟨x0,x1,x2,x3,x4,x5,x6,x7,x8⟩:=box9 X1;clear hb1 b1'
  cases b1 with
  | false =>
    have HNO:Hid (¬ OkShape s):=fun h => by have:=H1.out.mpr (HIFF.out.mp h).1;cases this
    clear H1;go_wp2;go_ret;exact ⟨3,rfl,.inl ⟨rfl,HNO.out⟩,B1⟩
  | true =>
    have HS1:Hid (Shp3 a0 a1):=H1.out.mp rfl;clear H1
    go_wp2_with fail
    refine (l2Shape_any a2 a3 _).mono ?_;rintro e w2 ⟨b2,rfl,hb2,b2'⟩;have X2:=X1.below b2' z1;have B2:Below w.heap.size w w2:=B1.trans (b2'.mono B1.size);have H2:Hid (b2 = true ↔ Shp a2 a3):=hb2;clear x0 x1 x2 x3 x4 x5 x6 x7 x8;obtain ⟨x0,x1,x2,x3,x4,x5,x6,x7,x8⟩:=box9 X2;clear hb2 b2' X1 B1
    cases b2 with
    | false =>
      have HNO:Hid (¬ OkShape s):=fun h => by have:=H2.out.mpr (HIFF.out.mp h).2.1;cases this
      clear H2;go_wp2;go_ret;exact ⟨3,rfl,.inl ⟨rfl,HNO.out⟩,B2⟩
    | true =>
      have HS2:Hid (Shp a2 a3):=H2.out.mp rfl;clear H2
      by_cases c4:1 ≤ a4 ∧ a4 ≤ 6
      · by_cases c5:1 ≤ a5 ∧ a5 ≤ 6
        · by_cases c6:1 ≤ a6 ∧ a6 ≤ 4
          · by_cases c7:1 ≤ a7 ∧ a7 ≤ 6
            · by_cases c8:0 ≤ a8 ∧ a8 ≤ 400
              · have HY:Hid (OkShape s):=HIFF.out.mpr ⟨HS1.out,HS2.out,c4,c5,c6,c7,c8⟩
                go_wp2_with fail
                refine (l1In_yes a4 1 6 c4.1 c4.2 _).mono ?_;rintro e w3 ⟨rfl,hw⟩;obtain rfl:=hw.symm
                go_wp2_with fail
                refine (l1In_yes a5 1 6 c5.1 c5.2 _).mono ?_;rintro e w3 ⟨rfl,hw⟩;obtain rfl:=hw.symm
                go_wp2_with fail
                refine (l1In_yes a6 1 4 c6.1 c6.2 _).mono ?_;rintro e w3 ⟨rfl,hw⟩;obtain rfl:=hw.symm
                go_wp2_with fail
                refine (l1In_yes a7 1 6 c7.1 c7.2 _).mono ?_;rintro e w3 ⟨rfl,hw⟩;obtain rfl:=hw.symm
                go_wp2_with fail
                refine (l1In_yes a8 0 400 c8.1 c8.2 _).mono ?_;rintro e w3 ⟨rfl,hw⟩;obtain rfl:=hw.symm;go_wp2;go_ret;exact ⟨0,rfl,.inr ⟨rfl,HY.out⟩,B2⟩
              · have HN:Hid (¬ OkShape s):=fun h => c8 (HIFF.out.mp h).2.2.2.2.2.2
                have c8':a8 < 0 ∨ 400 < a8:=by omega
                clear c8
                go_wp2_with fail
                refine (l1In_yes a4 1 6 c4.1 c4.2 _).mono ?_;rintro e w3 ⟨rfl,hw⟩;obtain rfl:=hw.symm
                go_wp2_with fail
                refine (l1In_yes a5 1 6 c5.1 c5.2 _).mono ?_;rintro e w3 ⟨rfl,hw⟩;obtain rfl:=hw.symm
                go_wp2_with fail
                refine (l1In_yes a6 1 4 c6.1 c6.2 _).mono ?_;rintro e w3 ⟨rfl,hw⟩;obtain rfl:=hw.symm
                go_wp2_with fail
                refine (l1In_yes a7 1 6 c7.1 c7.2 _).mono ?_;rintro e w3 ⟨rfl,hw⟩;obtain rfl:=hw.symm
                go_wp2_with fail
                refine (l1In_no a8 0 400 c8' _).mono ?_;rintro e w3 ⟨rfl,hw⟩;obtain rfl:=hw.symm;go_wp2;go_ret;exact ⟨3,rfl,.inl ⟨rfl,HN.out⟩,B2⟩
            · have HN:Hid (¬ OkShape s):=fun h => c7 (HIFF.out.mp h).2.2.2.2.2.1
              have c7':a7 < 1 ∨ 6 < a7:=by omega
              clear c7
              go_wp2_with fail
              refine (l1In_yes a4 1 6 c4.1 c4.2 _).mono ?_;rintro e w3 ⟨rfl,hw⟩;obtain rfl:=hw.symm
              go_wp2_with fail
              refine (l1In_yes a5 1 6 c5.1 c5.2 _).mono ?_;rintro e w3 ⟨rfl,hw⟩;obtain rfl:=hw.symm
              go_wp2_with fail
              refine (l1In_yes a6 1 4 c6.1 c6.2 _).mono ?_;rintro e w3 ⟨rfl,hw⟩;obtain rfl:=hw.symm
              go_wp2_with fail
              refine (l1In_no a7 1 6 c7' _).mono ?_;rintro e w3 ⟨rfl,hw⟩;obtain rfl:=hw.symm;go_wp2;go_ret;exact ⟨3,rfl,.inl ⟨rfl,HN.out⟩,B2⟩
          · have HN:Hid (¬ OkShape s):=fun h => c6 (HIFF.out.mp h).2.2.2.2.1
            have c6':a6 < 1 ∨ 4 < a6:=by omega
            clear c6
            go_wp2_with fail
            refine (l1In_yes a4 1 6 c4.1 c4.2 _).mono ?_;rintro e w3 ⟨rfl,hw⟩;obtain rfl:=hw.symm
            go_wp2_with fail
            refine (l1In_yes a5 1 6 c5.1 c5.2 _).mono ?_;rintro e w3 ⟨rfl,hw⟩;obtain rfl:=hw.symm
            go_wp2_with fail
            refine (l1In_no a6 1 4 c6' _).mono ?_;rintro e w3 ⟨rfl,hw⟩;obtain rfl:=hw.symm;go_wp2;go_ret;exact ⟨3,rfl,.inl ⟨rfl,HN.out⟩,B2⟩
        · have HN:Hid (¬ OkShape s):=fun h => c5 (HIFF.out.mp h).2.2.2.1
          have c5':a5 < 1 ∨ 6 < a5:=by omega
          clear c5
          go_wp2_with fail
          refine (l1In_yes a4 1 6 c4.1 c4.2 _).mono ?_;rintro e w3 ⟨rfl,hw⟩;obtain rfl:=hw.symm
          go_wp2_with fail
          refine (l1In_no a5 1 6 c5' _).mono ?_;rintro e w3 ⟨rfl,hw⟩;obtain rfl:=hw.symm;go_wp2;go_ret;exact ⟨3,rfl,.inl ⟨rfl,HN.out⟩,B2⟩
      · have HN:Hid (¬ OkShape s):=fun h => c4 (HIFF.out.mp h).2.2.1
        have c4':a4 < 1 ∨ 6 < a4:=by omega
        clear c4
        go_wp2_with fail
        refine (l1In_no a4 1 6 c4' _).mono ?_;rintro e w3 ⟨rfl,hw⟩;obtain rfl:=hw.symm;go_wp2;go_ret;exact ⟨3,rfl,.inl ⟨rfl,HN.out⟩,B2⟩
end Go.Proofs.YtbjblbbbafiepaaGreat
namespace Go.Proofs.YtbjblbbbafiepaaGreat
open Go.RowKit F256
set_option maxHeartbeats 8000000 in
set_option maxRecDepth 20000 in
theorem toBlock_is:ToV layBlock szBlockD 133:=fun cs d hi w r hhi hn => by
  obtain ⟨ao1,cap1,rfl,h1,k0⟩:=Block_rd r;clear r;unfold szBlockD at hn;have R1:Hid (layBytes.rd w hi d.bytes [.slice ao1 d.bytes.1 cap1]):=h1;clear h1;have Q0:Hid ((-9223372036854775808 ≤ d.stamp ∧ d.stamp ≤ 9223372036854775807)):=k0;clear k0
  go_enter Tryz.func133,Tryz.ntmps133
  go_wp2_with fail
  have T0:=three_newb w #[.int .i64 d.stamp,.slice ao1 d.bytes.1 cap1] #[.int .i64 0,.slice none 0 0] #[.int .i64 d.stamp,.slice none 0 0] 154 111 111;refine (toBytes_is _ d.bytes hi _ (layBytes.rd_below R1.out T0.bel hhi) (Nat.le_trans hhi T0.bel.size) (by omega)).mono ?_;rintro e w1 ⟨v1,rfl,o1,b1⟩;have L1:=T0.lt;obtain ⟨bo1,bcap1,hv⟩:=bytes_formT o1;obtain rfl:=one_eq hv;clear hv;have T1:Three w w1 #[.int .i64 d.stamp,.slice ao1 d.bytes.1 cap1] #[.int .i64 0,.slice none 0 0] #[.int .i64 d.stamp,.slice none 0 0] 154 111 111:=T0.call b1;have O1:Hid (OwnT layBytes w1 (w.heap.size + 1 + 1 + 1) (w1.heap.size) d.bytes [.slice bo1 d.bytes.1 bcap1]):=o1.weaken (by simp <;> omega) (Nat.le_refl _);clear o1;have LT1:w.heap.size + 1 + 1 + 1 ≤ w1.heap.size:=T1.lt;have y1_0:w1.cell? ⟨w.heap.size + 1 + 1,0,none⟩ = some (.int .i64 d.stamp):=T1.b3.cell 0;have y1_1:w1.cell? ⟨w.heap.size + 1 + 1,1,none⟩ = some (.slice none 0 0):=T1.b3.cell 1;have yf1_1:w1.frozen? ⟨w.heap.size + 1 + 1,1,none⟩ = false:=T1.b3.frozen 1;have z1_0:w1.cell? ⟨w.heap.size + 1,0,none⟩ = some (.int .i64 0):=T1.b2.cell 0;have zf1_0:w1.frozen? ⟨w.heap.size + 1,0,none⟩ = false:=T1.b2.frozen 0;have z1_1:w1.cell? ⟨w.heap.size + 1,1,none⟩ = some (.slice none 0 0):=T1.b2.cell 1;have zf1_1:w1.frozen? ⟨w.heap.size + 1,1,none⟩ = false:=T1.b2.frozen 1;have Bq:Hid (Below w.heap.size w w1):=T1.bel;clear T1 b1;go_wp2;refine bodyPost_ret (v:=.agg #[.int .i64 d.stamp,.slice bo1 d.bytes.1 bcap1]) (by simp [results,Tryz.results133,go_sem,y1_0,z1_0,y1_1,z1_1]) rfl ?_;have F:OwnT layBlock w1 (w.heap.size + 1 + 1 + 1) w1.heap.size d ([.int .i64 d.stamp] ++ [.slice bo1 d.bytes.1 bcap1]):=OwnT.conv (OwnT.pre (A:=layI) (a:=d.stamp) (c:=[.int .i64 d.stamp]) ⟨rfl,Q0.out,rfl⟩ (O1.out));exact ⟨[.int .i64 d.stamp,.slice bo1 d.bytes.1 bcap1],rfl,OwnT.fin F 1 0 [.slice bo1 d.bytes.1 bcap1] [.int .i64 d.stamp,.slice bo1 d.bytes.1 bcap1] _ rfl,below_fin Bq.out 1 0 [.slice bo1 d.bytes.1 bcap1] [.int .i64 d.stamp,.slice bo1 d.bytes.1 bcap1] _ rfl⟩
theorem info_BlockS:(Tryz.prog.info? 111).map (fun i => (i.zero.map (·.cells),i.size,i.bytes)) = some (some #[.int .i64 0,.slice none 0 0],2,32):=by kernel_rfl
set_option maxHeartbeats 4000000 in
theorem toBlockS_is:ToS (layBlock.slice 111) (szSl szBlockD) 117:=fun v d hi w h hhi hn => by
  obtain ⟨n,x⟩:=d;obtain ⟨ao,cap,hv,hm,hc⟩:=h
  cases hv
  have hn1:=szSl_n hn;have hn2:∀ i,i < n → szBlockD (x i) ≤ 1048576:=fun i hi => szSl_at hn hi
  simp only at hn1 hm hc
  clear hn
  go_enter Tryz.func117,Tryz.ntmps117
  go_wp2_with (at_make;refine wp_makeT layBlock [.int .i64 0,.slice none 0 0] _ 111 32 (by decide) rfl Tryz.underlying96 info_BlockS x (fun _ => []) _ rfl _ _ rfl _ _ n rfl rfl rfl rfl (by omega) (by omega) ?_;intro w1 sp1 hb1)
  go_loopw [4] (fun i wr => ∃ k:Nat,k ≤ n ∧ i = .int .i64 k ∧ ∃ ce Ls,SlP layBlock 111 wr w.heap.size w.heap.size n n k x ce Ls ∧ Below w.heap.size w wr) (fun i _ => n - (intOf i).toNat)
  case atStart => exact ⟨0,Nat.zero_le _,rfl,_,_,sp1,hb1⟩
  case round =>
    clear sp1 hb1;obtain ⟨k,hk,rfl,ce,Ls,sp,hb⟩:=hrel
    by_cases hlt:k < n
    · obtain ⟨b,off,rfl,hblt,hel⟩:=hc (by omega)
      obtain ⟨ck,hrk,hcell⟩:=elem_rd (t:=0) hel hb hhi hblt hlt;obtain ⟨ao1,cap1,rfl,-⟩:=Block_rd hrk;have c0:wr.cell? ⟨b,off + k * 2,none⟩ = some (.int .i64 (x k).stamp):=hcell 0 (by decide);have c1:wr.cell? ⟨b,off + k * 2 + 1,none⟩ = some (.slice ao1 (x k).bytes.1 cap1):=hcell 1 (by decide);clear hc hel hcell
      go_wp2_with fail
      refine (toBlock_is _ (x k) hi wr hrk (Nat.le_trans hhi hb.size) (hn2 k hlt)).mono ?_;rintro e w2 ⟨cs',rfl,o2,hb2⟩;obtain ⟨bao1,bcap1,rfl⟩:=Block_cells o2;obtain ⟨z0,s0⟩:=sp.some hb2 hlt (show 0 < layBlock.sz by decide);have s0:w2.cell? ⟨w.heap.size,k * 2,none⟩ = some z0:=s0;have sf0:=(sp.below hb2).frozen (k * 2);obtain ⟨z1,s1⟩:=sp.some hb2 hlt (show 1 < layBlock.sz by decide);have s1:w2.cell? ⟨w.heap.size,k * 2 + 1,none⟩ = some z1:=s1;have sf1:=(sp.below hb2).frozen (k * 2 + 1);have N:=sp.next hb2 hlt o2 hb.size;have N2:Below w.heap.size w (stN w2 w.heap.size (k * layBlock.sz) [.int .i64 (x k).stamp,.slice bao1 (x k).bytes.1 bcap1]):=(hb.trans (hb2.mono hb.size)).trans (stN_below (Nat.le_refl _) _ _);clear o2 hb2 sp hb
      go_wp2_with fail
      go_roundw
      case rel =>
        obtain ⟨ce',Ls',N⟩:=N;exact ⟨k + 1,by omega,by go_num,ce',Ls',N,N2⟩
      case measure => simp [intOf];omega
    · obtain rfl:k = n:=by omega
      go_wp2;go_ret;exact ⟨_,rfl,sp.done (Nat.le_refl _),hb⟩
set_option maxHeartbeats 8000000 in
set_option maxRecDepth 20000 in
theorem toDrive_is:ToV layDrive szDriveD 95:=fun cs d hi w r hhi hn => by
  obtain ⟨ao1,cap1,rfl,h1⟩:=Drive_rd r;clear r;unfold szDriveD at hn;have R1:Hid ((layBlock.slice 111).rd w hi d.blocks [.slice ao1 d.blocks.1 cap1]):=h1;clear h1
  go_enter Tryz.func95,Tryz.ntmps95
  go_wp2_with fail
  have T0:=three_newb w #[.bool d.wiped,.slice ao1 d.blocks.1 cap1] #[.bool false,.slice none 0 0] #[.bool d.wiped,.slice none 0 0] 120 98 98;refine (toBlockS_is _ d.blocks hi _ ((layBlock.slice 111).rd_below R1.out T0.bel hhi) (Nat.le_trans hhi T0.bel.size) (by omega)).mono ?_;rintro e w1 ⟨v1,rfl,o1,b1⟩;have L1:=T0.lt;obtain ⟨bo1,bcap1,hv⟩:=sl_formT o1;obtain rfl:=one_eq hv;clear hv;have T1:Three w w1 #[.bool d.wiped,.slice ao1 d.blocks.1 cap1] #[.bool false,.slice none 0 0] #[.bool d.wiped,.slice none 0 0] 120 98 98:=T0.call b1;have O1:Hid (OwnT (layBlock.slice 111) w1 (w.heap.size + 1 + 1 + 1) (w1.heap.size) d.blocks [.slice bo1 d.blocks.1 bcap1]):=o1.weaken (by simp <;> omega) (Nat.le_refl _);clear o1;have LT1:w.heap.size + 1 + 1 + 1 ≤ w1.heap.size:=T1.lt;have y1_0:w1.cell? ⟨w.heap.size + 1 + 1,0,none⟩ = some (.bool d.wiped):=T1.b3.cell 0;have y1_1:w1.cell? ⟨w.heap.size + 1 + 1,1,none⟩ = some (.slice none 0 0):=T1.b3.cell 1;have yf1_1:w1.frozen? ⟨w.heap.size + 1 + 1,1,none⟩ = false:=T1.b3.frozen 1;have z1_0:w1.cell? ⟨w.heap.size + 1,0,none⟩ = some (.bool false):=T1.b2.cell 0;have zf1_0:w1.frozen? ⟨w.heap.size + 1,0,none⟩ = false:=T1.b2.frozen 0;have z1_1:w1.cell? ⟨w.heap.size + 1,1,none⟩ = some (.slice none 0 0):=T1.b2.cell 1;have zf1_1:w1.frozen? ⟨w.heap.size + 1,1,none⟩ = false:=T1.b2.frozen 1;have Bq:Hid (Below w.heap.size w w1):=T1.bel;clear T1 b1;go_wp2;refine bodyPost_ret (v:=.agg #[.bool d.wiped,.slice bo1 d.blocks.1 bcap1]) (by simp [results,Tryz.results95,go_sem,y1_0,z1_0,y1_1,z1_1]) rfl ?_;have F:OwnT layDrive w1 (w.heap.size + 1 + 1 + 1) w1.heap.size d ([.bool d.wiped] ++ [.slice bo1 d.blocks.1 bcap1]):=OwnT.conv (OwnT.pre (A:=layB) (a:=d.wiped) (c:=[.bool d.wiped]) ⟨rfl,trivial,rfl⟩ (O1.out));exact ⟨[.bool d.wiped,.slice bo1 d.blocks.1 bcap1],rfl,OwnT.fin F 1 0 [.slice bo1 d.blocks.1 bcap1] [.bool d.wiped,.slice bo1 d.blocks.1 bcap1] _ rfl,below_fin Bq.out 1 0 [.slice bo1 d.blocks.1 bcap1] [.bool d.wiped,.slice bo1 d.blocks.1 bcap1] _ rfl⟩
theorem info_DriveS:(Tryz.prog.info? 98).map (fun i => (i.zero.map (·.cells),i.size,i.bytes)) = some (some #[.bool false,.slice none 0 0],2,32):=by kernel_rfl
set_option maxHeartbeats 4000000 in
theorem toDriveS_is:ToS (layDrive.slice 98) (szSl szDriveD) 60:=fun v d hi w h hhi hn => by
  obtain ⟨n,x⟩:=d;obtain ⟨ao,cap,hv,hm,hc⟩:=h
  cases hv
  have hn1:=szSl_n hn;have hn2:∀ i,i < n → szDriveD (x i) ≤ 1048576:=fun i hi => szSl_at hn hi
  simp only at hn1 hm hc
  clear hn
  go_enter Tryz.func60,Tryz.ntmps60
  go_wp2_with (at_make;refine wp_makeT layDrive [.bool false,.slice none 0 0] _ 98 32 (by decide) rfl Tryz.underlying95 info_DriveS x (fun _ => []) _ rfl _ _ rfl _ _ n rfl rfl rfl rfl (by omega) (by omega) ?_;intro w1 sp1 hb1)
  go_loopw [4] (fun i wr => ∃ k:Nat,k ≤ n ∧ i = .int .i64 k ∧ ∃ ce Ls,SlP layDrive 98 wr w.heap.size w.heap.size n n k x ce Ls ∧ Below w.heap.size w wr) (fun i _ => n - (intOf i).toNat)
  case atStart => exact ⟨0,Nat.zero_le _,rfl,_,_,sp1,hb1⟩
  case round =>
    clear sp1 hb1;obtain ⟨k,hk,rfl,ce,Ls,sp,hb⟩:=hrel
    by_cases hlt:k < n
    · obtain ⟨b,off,rfl,hblt,hel⟩:=hc (by omega)
      obtain ⟨ck,hrk,hcell⟩:=elem_rd (t:=0) hel hb hhi hblt hlt;obtain ⟨ao1,cap1,rfl,-⟩:=Drive_rd hrk;have c0:wr.cell? ⟨b,off + k * 2,none⟩ = some (.bool (x k).wiped):=hcell 0 (by decide);have c1:wr.cell? ⟨b,off + k * 2 + 1,none⟩ = some (.slice ao1 (x k).blocks.1 cap1):=hcell 1 (by decide);clear hc hel hcell
      go_wp2_with fail
      refine (toDrive_is _ (x k) hi wr hrk (Nat.le_trans hhi hb.size) (hn2 k hlt)).mono ?_;rintro e w2 ⟨cs',rfl,o2,hb2⟩;obtain ⟨bao1,bcap1,rfl⟩:=Drive_cells o2;obtain ⟨z0,s0⟩:=sp.some hb2 hlt (show 0 < layDrive.sz by decide);have s0:w2.cell? ⟨w.heap.size,k * 2,none⟩ = some z0:=s0;have sf0:=(sp.below hb2).frozen (k * 2);obtain ⟨z1,s1⟩:=sp.some hb2 hlt (show 1 < layDrive.sz by decide);have s1:w2.cell? ⟨w.heap.size,k * 2 + 1,none⟩ = some z1:=s1;have sf1:=(sp.below hb2).frozen (k * 2 + 1);have N:=sp.next hb2 hlt o2 hb.size;have N2:Below w.heap.size w (stN w2 w.heap.size (k * layDrive.sz) [.bool (x k).wiped,.slice bao1 (x k).blocks.1 bcap1]):=(hb.trans (hb2.mono hb.size)).trans (stN_below (Nat.le_refl _) _ _);clear o2 hb2 sp hb
      go_wp2_with fail
      go_roundw
      case rel =>
        obtain ⟨ce',Ls',N⟩:=N;exact ⟨k + 1,by omega,by go_num,ce',Ls',N,N2⟩
      case measure => simp [intOf];omega
    · obtain rfl:k = n:=by omega
      go_wp2;go_ret;exact ⟨_,rfl,sp.done (Nat.le_refl _),hb⟩
theorem info_DriveSS:(Tryz.prog.info? 95).map (fun i => (i.zero.map (·.cells),i.size,i.bytes)) = some (some #[.slice none 0 0],1,24):=by kernel_rfl
set_option maxHeartbeats 4000000 in
theorem toDriveSS_is:ToS ((layDrive.slice 98).slice 95) (szSl (szSl szDriveD)) 30:=fun v d hi w h hhi hn => by
  obtain ⟨n,x⟩:=d;obtain ⟨ao,cap,hv,hm,hc⟩:=h
  cases hv
  have hn1:=szSl_n hn;have hn2:∀ i,i < n → (szSl szDriveD) (x i) ≤ 1048576:=fun i hi => szSl_at hn hi
  simp only at hn1 hm hc
  clear hn
  go_enter Tryz.func30,Tryz.ntmps30
  go_wp2_with (at_make;refine wp_makeT (layDrive.slice 98) [.slice none 0 0] _ 95 24 (by decide) rfl Tryz.underlying34 info_DriveSS x (fun _ => []) _ rfl _ _ rfl _ _ n rfl rfl rfl rfl (by omega) (by omega) ?_;intro w1 sp1 hb1)
  go_loopw [4] (fun i wr => ∃ k:Nat,k ≤ n ∧ i = .int .i64 k ∧ ∃ ce Ls,SlP (layDrive.slice 98) 95 wr w.heap.size w.heap.size n n k x ce Ls ∧ Below w.heap.size w wr) (fun i _ => n - (intOf i).toNat)
  case atStart => exact ⟨0,Nat.zero_le _,rfl,_,_,sp1,hb1⟩
  case round =>
    clear sp1 hb1;obtain ⟨k,hk,rfl,ce,Ls,sp,hb⟩:=hrel
    by_cases hlt:k < n
    · obtain ⟨b,off,rfl,hblt,hel⟩:=hc (by omega)
      obtain ⟨ck,hrk,hcell⟩:=elem_rd (t:=0) hel hb hhi hblt hlt;obtain ⟨ao9,cap9,rfl⟩:=sl_form hrk
      have c0:wr.cell? ⟨b,off + k,none⟩ = some (.slice ao9 (x k).1 cap9):=by
        have h:=hcell 0 (show 0 < 1 by decide);rw [show (layDrive.slice 98).sz = 1 from rfl,Nat.mul_one,Nat.add_zero] at h;exact h
      clear hc hel hcell
      go_wp2_with fail
      refine (toDriveS_is _ (x k) hi wr hrk (Nat.le_trans hhi hb.size) (hn2 k hlt)).mono ?_;rintro e w2 ⟨v',rfl,o2,hb2⟩;obtain ⟨bao9,bcap9,hv'⟩:=sl_formT o2;obtain rfl:=one_eq hv';clear hv';obtain ⟨z0,s0⟩:=sp.some hb2 hlt (show 0 < (layDrive.slice 98).sz by decide);rw [show (layDrive.slice 98).sz = 1 from rfl,Nat.mul_one,Nat.add_zero] at s0;have sf0:=(sp.below hb2).frozen k;have N:=sp.next hb2 hlt o2 hb.size;have N2:Below w.heap.size w (stN w2 w.heap.size (k * (layDrive.slice 98).sz) [.slice bao9 (x k).1 bcap9]):=(hb.trans (hb2.mono hb.size)).trans (stN_below (Nat.le_refl _) _ _);rw [show (layDrive.slice 98).sz = 1 from rfl,Nat.mul_one] at N N2;clear o2 hb2 sp hb
      go_wp2_with fail
      go_roundw
      case rel =>
        obtain ⟨ce',Ls',N⟩:=N;exact ⟨k + 1,by omega,by go_num,ce',Ls',N,N2⟩
      case measure => simp [intOf];omega
    · obtain rfl:k = n:=by omega
      go_wp2;go_ret;exact ⟨_,rfl,sp.done (Nat.le_refl _),hb⟩
end Go.Proofs.YtbjblbbbafiepaaGreat
namespace Go.Proofs.YtbjblbbbafiepaaGreat
open Go.RowKit F256
set_option maxHeartbeats 8000000 in
set_option maxRecDepth 20000 in
theorem toRec_is:ToV layRec szRecD 118:=fun cs d hi w r hhi hn => by
  obtain ⟨ao6,cap6,ao7,cap7,ao8,cap8,rfl,h6,h7,h8,k0,k1,k2,k3,k4,k5⟩:=Rec_rd r;clear r;unfold szRecD at hn;have R6:Hid (layInts.rd w hi d.rows [.slice ao6 d.rows.1 cap6]):=h6;have R7:Hid (layBytes.rd w hi d.data [.slice ao7 d.data.1 cap7]):=h7;have R8:Hid (layBytes.rd w hi d.delta [.slice ao8 d.delta.1 cap8]):=h8;clear h6 h7 h8;have Q0:Hid ((-9223372036854775808 ≤ d.kind ∧ d.kind ≤ 9223372036854775807)):=k0;have Q1:Hid ((-9223372036854775808 ≤ d.seq ∧ d.seq ≤ 9223372036854775807)):=k1;have Q2:Hid (d.name.size ≤ maxLen):=k2;have Q3:Hid ((-9223372036854775808 ≤ d.length ∧ d.length ≤ 9223372036854775807)):=k3;have Q4:Hid ((-9223372036854775808 ≤ d.group ∧ d.group ≤ 9223372036854775807)):=k4;have Q5:Hid ((-9223372036854775808 ≤ d.row ∧ d.row ≤ 9223372036854775807)):=k5;clear k0 k1 k2 k3 k4 k5
  go_enter Tryz.func118,Tryz.ntmps118
  go_wp2_with fail
  have T0:=three_newb w #[.int .i64 d.kind,.int .i64 d.seq,.string d.name,.int .i64 d.length,.int .i64 d.group,.int .i64 d.row,.slice ao6 d.rows.1 cap6,.slice ao7 d.data.1 cap7,.slice ao8 d.delta.1 cap8] #[.int .i64 0,.int .i64 0,.string ByteArray.empty,.int .i64 0,.int .i64 0,.int .i64 0,.slice none 0 0,.slice none 0 0,.slice none 0 0] #[.int .i64 d.kind,.int .i64 d.seq,.string d.name,.int .i64 d.length,.int .i64 d.group,.int .i64 d.row,.slice none 0 0,.slice none 0 0,.slice none 0 0] 141 93 93;refine (toInts_is _ d.rows hi _ (layInts.rd_below R6.out T0.bel hhi) (Nat.le_trans hhi T0.bel.size) (by omega)).mono ?_;rintro e w1 ⟨v1,rfl,o1,b1⟩;have L1:=T0.lt;obtain ⟨bo6,bcap6,hv⟩:=ints_formT o1;obtain rfl:=one_eq hv;clear hv;have T1:Three w w1 #[.int .i64 d.kind,.int .i64 d.seq,.string d.name,.int .i64 d.length,.int .i64 d.group,.int .i64 d.row,.slice ao6 d.rows.1 cap6,.slice ao7 d.data.1 cap7,.slice ao8 d.delta.1 cap8] #[.int .i64 0,.int .i64 0,.string ByteArray.empty,.int .i64 0,.int .i64 0,.int .i64 0,.slice none 0 0,.slice none 0 0,.slice none 0 0] #[.int .i64 d.kind,.int .i64 d.seq,.string d.name,.int .i64 d.length,.int .i64 d.group,.int .i64 d.row,.slice none 0 0,.slice none 0 0,.slice none 0 0] 141 93 93:=T0.call b1;have O6:Hid (OwnT layInts w1 (w.heap.size + 1 + 1 + 1) (w1.heap.size) d.rows [.slice bo6 d.rows.1 bcap6]):=o1.weaken (by simp <;> omega) (Nat.le_refl _);clear o1;have LT1:w.heap.size + 1 + 1 + 1 ≤ w1.heap.size:=T1.lt;have x1_7:w1.cell? ⟨w.heap.size,7,none⟩ = some (.slice ao7 d.data.1 cap7):=T1.b1.cell 7;have y1_6:w1.cell? ⟨w.heap.size + 1 + 1,6,none⟩ = some (.slice none 0 0):=T1.b3.cell 6;have yf1_6:w1.frozen? ⟨w.heap.size + 1 + 1,6,none⟩ = false:=T1.b3.frozen 6;have V1:Three w (w1.setCell ⟨w.heap.size + 1 + 1,6,none⟩ (.slice bo6 d.rows.1 bcap6)) #[.int .i64 d.kind,.int .i64 d.seq,.string d.name,.int .i64 d.length,.int .i64 d.group,.int .i64 d.row,.slice ao6 d.rows.1 cap6,.slice ao7 d.data.1 cap7,.slice ao8 d.delta.1 cap8] #[.int .i64 0,.int .i64 0,.string ByteArray.empty,.int .i64 0,.int .i64 0,.int .i64 0,.slice none 0 0,.slice none 0 0,.slice none 0 0] #[.int .i64 d.kind,.int .i64 d.seq,.string d.name,.int .i64 d.length,.int .i64 d.group,.int .i64 d.row,.slice bo6 d.rows.1 bcap6,.slice none 0 0,.slice none 0 0] 141 93 93:=T1.st3 6 [.slice bo6 d.rows.1 bcap6] (c3':=[.int .i64 d.kind,.int .i64 d.seq,.string d.name,.int .i64 d.length,.int .i64 d.group,.int .i64 d.row,.slice bo6 d.rows.1 bcap6,.slice none 0 0,.slice none 0 0]) rfl;clear T1 b1
  go_wp2_with fail
  refine (toBytes_is _ d.data hi _ (layBytes.rd_below R7.out V1.bel hhi) (Nat.le_trans hhi V1.bel.size) (by omega)).mono ?_;rintro e w2 ⟨v2,rfl,o2,b2⟩;have L2:=V1.lt;obtain ⟨bo7,bcap7,hv⟩:=bytes_formT o2;obtain rfl:=one_eq hv;clear hv;have T2:Three w w2 #[.int .i64 d.kind,.int .i64 d.seq,.string d.name,.int .i64 d.length,.int .i64 d.group,.int .i64 d.row,.slice ao6 d.rows.1 cap6,.slice ao7 d.data.1 cap7,.slice ao8 d.delta.1 cap8] #[.int .i64 0,.int .i64 0,.string ByteArray.empty,.int .i64 0,.int .i64 0,.int .i64 0,.slice none 0 0,.slice none 0 0,.slice none 0 0] #[.int .i64 d.kind,.int .i64 d.seq,.string d.name,.int .i64 d.length,.int .i64 d.group,.int .i64 d.row,.slice bo6 d.rows.1 bcap6,.slice none 0 0,.slice none 0 0] 141 93 93:=V1.call b2;have O6x:OwnT layInts w2 (w.heap.size + 1 + 1 + 1) (w1.heap.size) d.rows [.slice bo6 d.rows.1 bcap6]:=((O6.out).set (show w.heap.size + 1 + 1 < _ by omega)).call b2;clear O6;have O6:Hid (OwnT layInts w2 (w.heap.size + 1 + 1 + 1) (w1.heap.size) d.rows [.slice bo6 d.rows.1 bcap6]):=O6x;clear O6x;have O7:Hid (OwnT layBytes w2 (w1.heap.size) (w2.heap.size) d.data [.slice bo7 d.data.1 bcap7]):=o2.weaken (by simp <;> omega) (Nat.le_refl _);clear o2;have LT2:w.heap.size + 1 + 1 + 1 ≤ w2.heap.size:=T2.lt
  have S2:w1.heap.size ≤ w2.heap.size:=by
    have:=b2.size
    simpa using this
  have x2_8:w2.cell? ⟨w.heap.size,8,none⟩ = some (.slice ao8 d.delta.1 cap8):=T2.b1.cell 8;have y2_7:w2.cell? ⟨w.heap.size + 1 + 1,7,none⟩ = some (.slice none 0 0):=T2.b3.cell 7;have yf2_7:w2.frozen? ⟨w.heap.size + 1 + 1,7,none⟩ = false:=T2.b3.frozen 7;have V2:Three w (w2.setCell ⟨w.heap.size + 1 + 1,7,none⟩ (.slice bo7 d.data.1 bcap7)) #[.int .i64 d.kind,.int .i64 d.seq,.string d.name,.int .i64 d.length,.int .i64 d.group,.int .i64 d.row,.slice ao6 d.rows.1 cap6,.slice ao7 d.data.1 cap7,.slice ao8 d.delta.1 cap8] #[.int .i64 0,.int .i64 0,.string ByteArray.empty,.int .i64 0,.int .i64 0,.int .i64 0,.slice none 0 0,.slice none 0 0,.slice none 0 0] #[.int .i64 d.kind,.int .i64 d.seq,.string d.name,.int .i64 d.length,.int .i64 d.group,.int .i64 d.row,.slice bo6 d.rows.1 bcap6,.slice bo7 d.data.1 bcap7,.slice none 0 0] 141 93 93:=T2.st3 7 [.slice bo7 d.data.1 bcap7] (c3':=[.int .i64 d.kind,.int .i64 d.seq,.string d.name,.int .i64 d.length,.int .i64 d.group,.int .i64 d.row,.slice bo6 d.rows.1 bcap6,.slice bo7 d.data.1 bcap7,.slice none 0 0]) rfl;clear T2 b2
  go_wp2_with fail
  refine (toBytes_is _ d.delta hi _ (layBytes.rd_below R8.out V2.bel hhi) (Nat.le_trans hhi V2.bel.size) (by omega)).mono ?_;rintro e w3 ⟨v3,rfl,o3,b3⟩;have L3:=V2.lt;obtain ⟨bo8,bcap8,hv⟩:=bytes_formT o3;obtain rfl:=one_eq hv;clear hv;have T3:Three w w3 #[.int .i64 d.kind,.int .i64 d.seq,.string d.name,.int .i64 d.length,.int .i64 d.group,.int .i64 d.row,.slice ao6 d.rows.1 cap6,.slice ao7 d.data.1 cap7,.slice ao8 d.delta.1 cap8] #[.int .i64 0,.int .i64 0,.string ByteArray.empty,.int .i64 0,.int .i64 0,.int .i64 0,.slice none 0 0,.slice none 0 0,.slice none 0 0] #[.int .i64 d.kind,.int .i64 d.seq,.string d.name,.int .i64 d.length,.int .i64 d.group,.int .i64 d.row,.slice bo6 d.rows.1 bcap6,.slice bo7 d.data.1 bcap7,.slice none 0 0] 141 93 93:=V2.call b3;have O6x:OwnT layInts w3 (w.heap.size + 1 + 1 + 1) (w1.heap.size) d.rows [.slice bo6 d.rows.1 bcap6]:=((O6.out).set (show w.heap.size + 1 + 1 < _ by omega)).call b3;clear O6;have O6:Hid (OwnT layInts w3 (w.heap.size + 1 + 1 + 1) (w1.heap.size) d.rows [.slice bo6 d.rows.1 bcap6]):=O6x;clear O6x;have O7x:OwnT layBytes w3 (w1.heap.size) (w2.heap.size) d.data [.slice bo7 d.data.1 bcap7]:=((O7.out).set (show w.heap.size + 1 + 1 < _ by omega)).call b3;clear O7;have O7:Hid (OwnT layBytes w3 (w1.heap.size) (w2.heap.size) d.data [.slice bo7 d.data.1 bcap7]):=O7x;clear O7x;have O8:Hid (OwnT layBytes w3 (w2.heap.size) (w3.heap.size) d.delta [.slice bo8 d.delta.1 bcap8]):=o3.weaken (by simp <;> omega) (Nat.le_refl _);clear o3;have LT3:w.heap.size + 1 + 1 + 1 ≤ w3.heap.size:=T3.lt
  have S3:w2.heap.size ≤ w3.heap.size:=by
    have:=b3.size
    simpa using this
  have y3_0:w3.cell? ⟨w.heap.size + 1 + 1,0,none⟩ = some (.int .i64 d.kind):=T3.b3.cell 0;have y3_1:w3.cell? ⟨w.heap.size + 1 + 1,1,none⟩ = some (.int .i64 d.seq):=T3.b3.cell 1;have y3_2:w3.cell? ⟨w.heap.size + 1 + 1,2,none⟩ = some (.string d.name):=T3.b3.cell 2;have y3_3:w3.cell? ⟨w.heap.size + 1 + 1,3,none⟩ = some (.int .i64 d.length):=T3.b3.cell 3;have y3_4:w3.cell? ⟨w.heap.size + 1 + 1,4,none⟩ = some (.int .i64 d.group):=T3.b3.cell 4;have y3_5:w3.cell? ⟨w.heap.size + 1 + 1,5,none⟩ = some (.int .i64 d.row):=T3.b3.cell 5;have y3_6:w3.cell? ⟨w.heap.size + 1 + 1,6,none⟩ = some (.slice bo6 d.rows.1 bcap6):=T3.b3.cell 6;have y3_7:w3.cell? ⟨w.heap.size + 1 + 1,7,none⟩ = some (.slice bo7 d.data.1 bcap7):=T3.b3.cell 7;have y3_8:w3.cell? ⟨w.heap.size + 1 + 1,8,none⟩ = some (.slice none 0 0):=T3.b3.cell 8;have yf3_8:w3.frozen? ⟨w.heap.size + 1 + 1,8,none⟩ = false:=T3.b3.frozen 8;have z3_0:w3.cell? ⟨w.heap.size + 1,0,none⟩ = some (.int .i64 0):=T3.b2.cell 0;have zf3_0:w3.frozen? ⟨w.heap.size + 1,0,none⟩ = false:=T3.b2.frozen 0;have z3_1:w3.cell? ⟨w.heap.size + 1,1,none⟩ = some (.int .i64 0):=T3.b2.cell 1;have zf3_1:w3.frozen? ⟨w.heap.size + 1,1,none⟩ = false:=T3.b2.frozen 1;have z3_2:w3.cell? ⟨w.heap.size + 1,2,none⟩ = some (.string ByteArray.empty):=T3.b2.cell 2;have zf3_2:w3.frozen? ⟨w.heap.size + 1,2,none⟩ = false:=T3.b2.frozen 2;have z3_3:w3.cell? ⟨w.heap.size + 1,3,none⟩ = some (.int .i64 0):=T3.b2.cell 3;have zf3_3:w3.frozen? ⟨w.heap.size + 1,3,none⟩ = false:=T3.b2.frozen 3;have z3_4:w3.cell? ⟨w.heap.size + 1,4,none⟩ = some (.int .i64 0):=T3.b2.cell 4;have zf3_4:w3.frozen? ⟨w.heap.size + 1,4,none⟩ = false:=T3.b2.frozen 4;have z3_5:w3.cell? ⟨w.heap.size + 1,5,none⟩ = some (.int .i64 0):=T3.b2.cell 5;have zf3_5:w3.frozen? ⟨w.heap.size + 1,5,none⟩ = false:=T3.b2.frozen 5;have z3_6:w3.cell? ⟨w.heap.size + 1,6,none⟩ = some (.slice none 0 0):=T3.b2.cell 6;have zf3_6:w3.frozen? ⟨w.heap.size + 1,6,none⟩ = false:=T3.b2.frozen 6;have z3_7:w3.cell? ⟨w.heap.size + 1,7,none⟩ = some (.slice none 0 0):=T3.b2.cell 7;have zf3_7:w3.frozen? ⟨w.heap.size + 1,7,none⟩ = false:=T3.b2.frozen 7;have z3_8:w3.cell? ⟨w.heap.size + 1,8,none⟩ = some (.slice none 0 0):=T3.b2.cell 8;have zf3_8:w3.frozen? ⟨w.heap.size + 1,8,none⟩ = false:=T3.b2.frozen 8;have Bq:Hid (Below w.heap.size w w3):=T3.bel;clear T3 b3;go_wp2;refine bodyPost_ret (v:=.agg #[.int .i64 d.kind,.int .i64 d.seq,.string d.name,.int .i64 d.length,.int .i64 d.group,.int .i64 d.row,.slice bo6 d.rows.1 bcap6,.slice bo7 d.data.1 bcap7,.slice bo8 d.delta.1 bcap8]) (by simp [results,Tryz.results118,go_sem,y3_0,z3_0,y3_1,z3_1,y3_2,z3_2,y3_3,z3_3,y3_4,z3_4,y3_5,z3_5,y3_6,z3_6,y3_7,z3_7,y3_8,z3_8]) rfl ?_;have F:OwnT layRec w3 (w.heap.size + 1 + 1 + 1) w3.heap.size d ([.int .i64 d.kind] ++ ([.int .i64 d.seq] ++ ([.string d.name] ++ ([.int .i64 d.length] ++ ([.int .i64 d.group] ++ ([.int .i64 d.row] ++ ([.slice bo6 d.rows.1 bcap6] ++ ([.slice bo7 d.data.1 bcap7] ++ [.slice bo8 d.delta.1 bcap8])))))))):=OwnT.conv (OwnT.pre (A:=layI) (a:=d.kind) (c:=[.int .i64 d.kind]) ⟨rfl,Q0.out,rfl⟩ (OwnT.pre (A:=layI) (a:=d.seq) (c:=[.int .i64 d.seq]) ⟨rfl,Q1.out,rfl⟩ (OwnT.pre (A:=layS) (a:=d.name) (c:=[.string d.name]) ⟨rfl,Q2.out,rfl⟩ (OwnT.pre (A:=layI) (a:=d.length) (c:=[.int .i64 d.length]) ⟨rfl,Q3.out,rfl⟩ (OwnT.pre (A:=layI) (a:=d.group) (c:=[.int .i64 d.group]) ⟨rfl,Q4.out,rfl⟩ (OwnT.pre (A:=layI) (a:=d.row) (c:=[.int .i64 d.row]) ⟨rfl,Q5.out,rfl⟩ (OwnT.two O6.out (OwnT.two O7.out (O8.out) (by omega) (by omega) (by omega)) (by omega) (by omega) (by omega))))))))
  exact ⟨[.int .i64 d.kind,.int .i64 d.seq,.string d.name,.int .i64 d.length,.int .i64 d.group,.int .i64 d.row,.slice bo6 d.rows.1 bcap6,.slice bo7 d.data.1 bcap7,.slice bo8 d.delta.1 bcap8],rfl,OwnT.fin F 8 0 [.slice bo8 d.delta.1 bcap8] [.int .i64 d.kind,.int .i64 d.seq,.string d.name,.int .i64 d.length,.int .i64 d.group,.int .i64 d.row,.slice bo6 d.rows.1 bcap6,.slice bo7 d.data.1 bcap7,.slice bo8 d.delta.1 bcap8] _ rfl,below_fin Bq.out 8 0 [.slice bo8 d.delta.1 bcap8] [.int .i64 d.kind,.int .i64 d.seq,.string d.name,.int .i64 d.length,.int .i64 d.group,.int .i64 d.row,.slice bo6 d.rows.1 bcap6,.slice bo7 d.data.1 bcap7,.slice bo8 d.delta.1 bcap8] _ rfl⟩
theorem info_RecS:(Tryz.prog.info? 93).map (fun i => (i.zero.map (·.cells),i.size,i.bytes)) = some (some #[.int .i64 0,.int .i64 0,.string ByteArray.empty,.int .i64 0,.int .i64 0,.int .i64 0,.slice none 0 0,.slice none 0 0,.slice none 0 0],9,128):=by kernel_rfl
set_option maxHeartbeats 4000000 in
theorem toRecS_is:ToS (layRec.slice 93) (szSl szRecD) 96:=fun v d hi w h hhi hn => by
  obtain ⟨n,x⟩:=d;obtain ⟨ao,cap,hv,hm,hc⟩:=h
  cases hv
  have hn1:=szSl_n hn;have hn2:∀ i,i < n → szRecD (x i) ≤ 1048576:=fun i hi => szSl_at hn hi
  simp only at hn1 hm hc
  clear hn
  go_enter Tryz.func96,Tryz.ntmps96
  go_wp2_with (at_make;refine wp_makeT layRec [.int .i64 0,.int .i64 0,.string ByteArray.empty,.int .i64 0,.int .i64 0,.int .i64 0,.slice none 0 0,.slice none 0 0,.slice none 0 0] _ 93 128 (by decide) rfl Tryz.underlying88 info_RecS x (fun _ => []) _ rfl _ _ rfl _ _ n rfl rfl rfl rfl (by omega) (by omega) ?_;intro w1 sp1 hb1)
  go_loopw [4] (fun i wr => ∃ k:Nat,k ≤ n ∧ i = .int .i64 k ∧ ∃ ce Ls,SlP layRec 93 wr w.heap.size w.heap.size n n k x ce Ls ∧ Below w.heap.size w wr) (fun i _ => n - (intOf i).toNat)
  case atStart => exact ⟨0,Nat.zero_le _,rfl,_,_,sp1,hb1⟩
  case round =>
    clear sp1 hb1;obtain ⟨k,hk,rfl,ce,Ls,sp,hb⟩:=hrel
    by_cases hlt:k < n
    · obtain ⟨b,off,rfl,hblt,hel⟩:=hc (by omega)
      obtain ⟨ck,hrk,hcell⟩:=elem_rd (t:=0) hel hb hhi hblt hlt;obtain ⟨ao6,cap6,ao7,cap7,ao8,cap8,rfl,-⟩:=Rec_rd hrk;have c0:wr.cell? ⟨b,off + k * 9,none⟩ = some (.int .i64 (x k).kind):=hcell 0 (by decide);have c1:wr.cell? ⟨b,off + k * 9 + 1,none⟩ = some (.int .i64 (x k).seq):=hcell 1 (by decide);have c2:wr.cell? ⟨b,off + k * 9 + 2,none⟩ = some (.string (x k).name):=hcell 2 (by decide);have c3:wr.cell? ⟨b,off + k * 9 + 3,none⟩ = some (.int .i64 (x k).length):=hcell 3 (by decide);have c4:wr.cell? ⟨b,off + k * 9 + 4,none⟩ = some (.int .i64 (x k).group):=hcell 4 (by decide);have c5:wr.cell? ⟨b,off + k * 9 + 5,none⟩ = some (.int .i64 (x k).row):=hcell 5 (by decide);have c6:wr.cell? ⟨b,off + k * 9 + 6,none⟩ = some (.slice ao6 (x k).rows.1 cap6):=hcell 6 (by decide);have c7:wr.cell? ⟨b,off + k * 9 + 7,none⟩ = some (.slice ao7 (x k).data.1 cap7):=hcell 7 (by decide);have c8:wr.cell? ⟨b,off + k * 9 + 8,none⟩ = some (.slice ao8 (x k).delta.1 cap8):=hcell 8 (by decide);clear hc hel hcell
      go_wp2_with fail
      refine (toRec_is _ (x k) hi wr hrk (Nat.le_trans hhi hb.size) (hn2 k hlt)).mono ?_;rintro e w2 ⟨cs',rfl,o2,hb2⟩;obtain ⟨bao6,bcap6,bao7,bcap7,bao8,bcap8,rfl⟩:=Rec_cells o2;obtain ⟨z0,s0⟩:=sp.some hb2 hlt (show 0 < layRec.sz by decide);have s0:w2.cell? ⟨w.heap.size,k * 9,none⟩ = some z0:=s0;have sf0:=(sp.below hb2).frozen (k * 9);obtain ⟨z1,s1⟩:=sp.some hb2 hlt (show 1 < layRec.sz by decide);have s1:w2.cell? ⟨w.heap.size,k * 9 + 1,none⟩ = some z1:=s1;have sf1:=(sp.below hb2).frozen (k * 9 + 1);obtain ⟨z2,s2⟩:=sp.some hb2 hlt (show 2 < layRec.sz by decide);have s2:w2.cell? ⟨w.heap.size,k * 9 + 2,none⟩ = some z2:=s2;have sf2:=(sp.below hb2).frozen (k * 9 + 2);obtain ⟨z3,s3⟩:=sp.some hb2 hlt (show 3 < layRec.sz by decide);have s3:w2.cell? ⟨w.heap.size,k * 9 + 3,none⟩ = some z3:=s3;have sf3:=(sp.below hb2).frozen (k * 9 + 3);obtain ⟨z4,s4⟩:=sp.some hb2 hlt (show 4 < layRec.sz by decide);have s4:w2.cell? ⟨w.heap.size,k * 9 + 4,none⟩ = some z4:=s4;have sf4:=(sp.below hb2).frozen (k * 9 + 4);obtain ⟨z5,s5⟩:=sp.some hb2 hlt (show 5 < layRec.sz by decide);have s5:w2.cell? ⟨w.heap.size,k * 9 + 5,none⟩ = some z5:=s5;have sf5:=(sp.below hb2).frozen (k * 9 + 5);obtain ⟨z6,s6⟩:=sp.some hb2 hlt (show 6 < layRec.sz by decide);have s6:w2.cell? ⟨w.heap.size,k * 9 + 6,none⟩ = some z6:=s6;have sf6:=(sp.below hb2).frozen (k * 9 + 6);obtain ⟨z7,s7⟩:=sp.some hb2 hlt (show 7 < layRec.sz by decide);have s7:w2.cell? ⟨w.heap.size,k * 9 + 7,none⟩ = some z7:=s7;have sf7:=(sp.below hb2).frozen (k * 9 + 7);obtain ⟨z8,s8⟩:=sp.some hb2 hlt (show 8 < layRec.sz by decide);have s8:w2.cell? ⟨w.heap.size,k * 9 + 8,none⟩ = some z8:=s8;have sf8:=(sp.below hb2).frozen (k * 9 + 8);have N:=sp.next hb2 hlt o2 hb.size;have N2:Below w.heap.size w (stN w2 w.heap.size (k * layRec.sz) [.int .i64 (x k).kind,.int .i64 (x k).seq,.string (x k).name,.int .i64 (x k).length,.int .i64 (x k).group,.int .i64 (x k).row,.slice bao6 (x k).rows.1 bcap6,.slice bao7 (x k).data.1 bcap7,.slice bao8 (x k).delta.1 bcap8]):=(hb.trans (hb2.mono hb.size)).trans (stN_below (Nat.le_refl _) _ _);clear o2 hb2 sp hb
      go_wp2_with fail
      go_roundw
      case rel =>
        obtain ⟨ce',Ls',N⟩:=N;exact ⟨k + 1,by omega,by go_num,ce',Ls',N,N2⟩
      case measure => simp [intOf];omega
    · obtain rfl:k = n:=by omega
      go_wp2;go_ret;exact ⟨_,rfl,sp.done (Nat.le_refl _),hb⟩
set_option maxHeartbeats 8000000 in
set_option maxRecDepth 20000 in
theorem toTape_is:ToV layTape szTapeD 61:=fun cs d hi w r hhi hn => by
  obtain ⟨ao1,cap1,rfl,h1⟩:=Tape_rd r;clear r;unfold szTapeD at hn;have R1:Hid ((layRec.slice 93).rd w hi d.recs [.slice ao1 d.recs.1 cap1]):=h1;clear h1
  go_enter Tryz.func61,Tryz.ntmps61
  go_wp2_with fail
  have T0:=three_newb w #[.bool d.wiped,.slice ao1 d.recs.1 cap1] #[.bool false,.slice none 0 0] #[.bool d.wiped,.slice none 0 0] 85 90 90;refine (toRecS_is _ d.recs hi _ ((layRec.slice 93).rd_below R1.out T0.bel hhi) (Nat.le_trans hhi T0.bel.size) (by omega)).mono ?_;rintro e w1 ⟨v1,rfl,o1,b1⟩;have L1:=T0.lt;obtain ⟨bo1,bcap1,hv⟩:=sl_formT o1;obtain rfl:=one_eq hv;clear hv;have T1:Three w w1 #[.bool d.wiped,.slice ao1 d.recs.1 cap1] #[.bool false,.slice none 0 0] #[.bool d.wiped,.slice none 0 0] 85 90 90:=T0.call b1;have O1:Hid (OwnT (layRec.slice 93) w1 (w.heap.size + 1 + 1 + 1) (w1.heap.size) d.recs [.slice bo1 d.recs.1 bcap1]):=o1.weaken (by simp <;> omega) (Nat.le_refl _);clear o1;have LT1:w.heap.size + 1 + 1 + 1 ≤ w1.heap.size:=T1.lt;have y1_0:w1.cell? ⟨w.heap.size + 1 + 1,0,none⟩ = some (.bool d.wiped):=T1.b3.cell 0;have y1_1:w1.cell? ⟨w.heap.size + 1 + 1,1,none⟩ = some (.slice none 0 0):=T1.b3.cell 1;have yf1_1:w1.frozen? ⟨w.heap.size + 1 + 1,1,none⟩ = false:=T1.b3.frozen 1;have z1_0:w1.cell? ⟨w.heap.size + 1,0,none⟩ = some (.bool false):=T1.b2.cell 0;have zf1_0:w1.frozen? ⟨w.heap.size + 1,0,none⟩ = false:=T1.b2.frozen 0;have z1_1:w1.cell? ⟨w.heap.size + 1,1,none⟩ = some (.slice none 0 0):=T1.b2.cell 1;have zf1_1:w1.frozen? ⟨w.heap.size + 1,1,none⟩ = false:=T1.b2.frozen 1;have Bq:Hid (Below w.heap.size w w1):=T1.bel;clear T1 b1;go_wp2;refine bodyPost_ret (v:=.agg #[.bool d.wiped,.slice bo1 d.recs.1 bcap1]) (by simp [results,Tryz.results61,go_sem,y1_0,z1_0,y1_1,z1_1]) rfl ?_;have F:OwnT layTape w1 (w.heap.size + 1 + 1 + 1) w1.heap.size d ([.bool d.wiped] ++ [.slice bo1 d.recs.1 bcap1]):=OwnT.conv (OwnT.pre (A:=layB) (a:=d.wiped) (c:=[.bool d.wiped]) ⟨rfl,trivial,rfl⟩ (O1.out));exact ⟨[.bool d.wiped,.slice bo1 d.recs.1 bcap1],rfl,OwnT.fin F 1 0 [.slice bo1 d.recs.1 bcap1] [.bool d.wiped,.slice bo1 d.recs.1 bcap1] _ rfl,below_fin Bq.out 1 0 [.slice bo1 d.recs.1 bcap1] [.bool d.wiped,.slice bo1 d.recs.1 bcap1] _ rfl⟩
theorem info_TapeS:(Tryz.prog.info? 90).map (fun i => (i.zero.map (·.cells),i.size,i.bytes)) = some (some #[.bool false,.slice none 0 0],2,32):=by kernel_rfl
set_option maxHeartbeats 4000000 in
theorem toTapeS_is:ToS (layTape.slice 90) (szSl szTapeD) 32:=fun v d hi w h hhi hn => by
  obtain ⟨n,x⟩:=d;obtain ⟨ao,cap,hv,hm,hc⟩:=h
  cases hv
  have hn1:=szSl_n hn;have hn2:∀ i,i < n → szTapeD (x i) ≤ 1048576:=fun i hi => szSl_at hn hi
  simp only at hn1 hm hc
  clear hn
  go_enter Tryz.func32,Tryz.ntmps32
  go_wp2_with (at_make;refine wp_makeT layTape [.bool false,.slice none 0 0] _ 90 32 (by decide) rfl Tryz.underlying35 info_TapeS x (fun _ => []) _ rfl _ _ rfl _ _ n rfl rfl rfl rfl (by omega) (by omega) ?_;intro w1 sp1 hb1)
  go_loopw [4] (fun i wr => ∃ k:Nat,k ≤ n ∧ i = .int .i64 k ∧ ∃ ce Ls,SlP layTape 90 wr w.heap.size w.heap.size n n k x ce Ls ∧ Below w.heap.size w wr) (fun i _ => n - (intOf i).toNat)
  case atStart => exact ⟨0,Nat.zero_le _,rfl,_,_,sp1,hb1⟩
  case round =>
    clear sp1 hb1;obtain ⟨k,hk,rfl,ce,Ls,sp,hb⟩:=hrel
    by_cases hlt:k < n
    · obtain ⟨b,off,rfl,hblt,hel⟩:=hc (by omega)
      obtain ⟨ck,hrk,hcell⟩:=elem_rd (t:=0) hel hb hhi hblt hlt;obtain ⟨ao1,cap1,rfl,-⟩:=Tape_rd hrk;have c0:wr.cell? ⟨b,off + k * 2,none⟩ = some (.bool (x k).wiped):=hcell 0 (by decide);have c1:wr.cell? ⟨b,off + k * 2 + 1,none⟩ = some (.slice ao1 (x k).recs.1 cap1):=hcell 1 (by decide);clear hc hel hcell
      go_wp2_with fail
      refine (toTape_is _ (x k) hi wr hrk (Nat.le_trans hhi hb.size) (hn2 k hlt)).mono ?_;rintro e w2 ⟨cs',rfl,o2,hb2⟩;obtain ⟨bao1,bcap1,rfl⟩:=Tape_cells o2;obtain ⟨z0,s0⟩:=sp.some hb2 hlt (show 0 < layTape.sz by decide);have s0:w2.cell? ⟨w.heap.size,k * 2,none⟩ = some z0:=s0;have sf0:=(sp.below hb2).frozen (k * 2);obtain ⟨z1,s1⟩:=sp.some hb2 hlt (show 1 < layTape.sz by decide);have s1:w2.cell? ⟨w.heap.size,k * 2 + 1,none⟩ = some z1:=s1;have sf1:=(sp.below hb2).frozen (k * 2 + 1);have N:=sp.next hb2 hlt o2 hb.size;have N2:Below w.heap.size w (stN w2 w.heap.size (k * layTape.sz) [.bool (x k).wiped,.slice bao1 (x k).recs.1 bcap1]):=(hb.trans (hb2.mono hb.size)).trans (stN_below (Nat.le_refl _) _ _);clear o2 hb2 sp hb
      go_wp2_with fail
      go_roundw
      case rel =>
        obtain ⟨ce',Ls',N⟩:=N;exact ⟨k + 1,by omega,by go_num,ce',Ls',N,N2⟩
      case measure => simp [intOf];omega
    · obtain rfl:k = n:=by omega
      go_wp2;go_ret;exact ⟨_,rfl,sp.done (Nat.le_refl _),hb⟩
end Go.Proofs.YtbjblbbbafiepaaGreat
namespace Go.Proofs.YtbjblbbbafiepaaGreat
open Go.RowKit F256
set_option maxHeartbeats 8000000 in
set_option maxRecDepth 20000 in
theorem toWorld_is:ToV layWorld szWorldD 8:=fun cs d hi w r hhi hn => by
  obtain ⟨ao1,cap1,ao2,cap2,ao3,cap3,rfl,h1,h2,h3,k0,k4,k5⟩:=World_rd r;clear r;unfold szWorldD at hn;have R1:Hid (((layDrive.slice 98).slice 95).rd w hi d.groups [.slice ao1 d.groups.1 cap1]):=h1;have R2:Hid (layInts.rd w hi d.on [.slice ao2 d.on.1 cap2]):=h2;have R3:Hid ((layTape.slice 90).rd w hi d.tapes [.slice ao3 d.tapes.1 cap3]):=h3;clear h1 h2 h3;have Q0:Hid ((∀ i,-9223372036854775808 ≤ d.shape i ∧ d.shape i ≤ 9223372036854775807)):=k0;have Q4:Hid ((-9223372036854775808 ≤ d.writes ∧ d.writes ≤ 9223372036854775807)):=k4;have Q5:Hid ((-9223372036854775808 ≤ d.stop ∧ d.stop ≤ 9223372036854775807)):=k5;clear k0 k4 k5
  go_enter Tryz.func8,Tryz.ntmps8
  go_wp2_with fail
  have T0:=three_newb w #[.int .i64 (d.shape 0),.int .i64 (d.shape 1),.int .i64 (d.shape 2),.int .i64 (d.shape 3),.int .i64 (d.shape 4),.int .i64 (d.shape 5),.int .i64 (d.shape 6),.int .i64 (d.shape 7),.int .i64 (d.shape 8),.slice ao1 d.groups.1 cap1,.slice ao2 d.on.1 cap2,.slice ao3 d.tapes.1 cap3,.int .i64 d.writes,.int .i64 d.stop,.bool d.down] #[.int .i64 0,.int .i64 0,.int .i64 0,.int .i64 0,.int .i64 0,.int .i64 0,.int .i64 0,.int .i64 0,.int .i64 0,.slice none 0 0,.slice none 0 0,.slice none 0 0,.int .i64 0,.int .i64 0,.bool false] #[.int .i64 0,.int .i64 0,.int .i64 0,.int .i64 0,.int .i64 0,.int .i64 0,.int .i64 0,.int .i64 0,.int .i64 0,.slice none 0 0,.slice none 0 0,.slice none 0 0,.int .i64 0,.int .i64 0,.bool false] 28 37 37;refine (toShape_any d.shape _).mono ?_;rintro e w1 ⟨rfl,b1⟩;unfold shapeV;have L1:=T0.lt;have T1:Three w w1 #[.int .i64 (d.shape 0),.int .i64 (d.shape 1),.int .i64 (d.shape 2),.int .i64 (d.shape 3),.int .i64 (d.shape 4),.int .i64 (d.shape 5),.int .i64 (d.shape 6),.int .i64 (d.shape 7),.int .i64 (d.shape 8),.slice ao1 d.groups.1 cap1,.slice ao2 d.on.1 cap2,.slice ao3 d.tapes.1 cap3,.int .i64 d.writes,.int .i64 d.stop,.bool d.down] #[.int .i64 0,.int .i64 0,.int .i64 0,.int .i64 0,.int .i64 0,.int .i64 0,.int .i64 0,.int .i64 0,.int .i64 0,.slice none 0 0,.slice none 0 0,.slice none 0 0,.int .i64 0,.int .i64 0,.bool false] #[.int .i64 0,.int .i64 0,.int .i64 0,.int .i64 0,.int .i64 0,.int .i64 0,.int .i64 0,.int .i64 0,.int .i64 0,.slice none 0 0,.slice none 0 0,.slice none 0 0,.int .i64 0,.int .i64 0,.bool false] 28 37 37:=T0.call b1;have LT1:w.heap.size + 1 + 1 + 1 ≤ w1.heap.size:=T1.lt;have x1_9:w1.cell? ⟨w.heap.size,9,none⟩ = some (.slice ao1 d.groups.1 cap1):=T1.b1.cell 9;have y1_0:w1.cell? ⟨w.heap.size + 1 + 1,0,none⟩ = some (.int .i64 0):=T1.b3.cell 0;have y1_1:w1.cell? ⟨w.heap.size + 1 + 1,1,none⟩ = some (.int .i64 0):=T1.b3.cell 1;have y1_2:w1.cell? ⟨w.heap.size + 1 + 1,2,none⟩ = some (.int .i64 0):=T1.b3.cell 2;have y1_3:w1.cell? ⟨w.heap.size + 1 + 1,3,none⟩ = some (.int .i64 0):=T1.b3.cell 3;have y1_4:w1.cell? ⟨w.heap.size + 1 + 1,4,none⟩ = some (.int .i64 0):=T1.b3.cell 4;have y1_5:w1.cell? ⟨w.heap.size + 1 + 1,5,none⟩ = some (.int .i64 0):=T1.b3.cell 5;have y1_6:w1.cell? ⟨w.heap.size + 1 + 1,6,none⟩ = some (.int .i64 0):=T1.b3.cell 6;have y1_7:w1.cell? ⟨w.heap.size + 1 + 1,7,none⟩ = some (.int .i64 0):=T1.b3.cell 7;have y1_8:w1.cell? ⟨w.heap.size + 1 + 1,8,none⟩ = some (.int .i64 0):=T1.b3.cell 8;have yf1_0:w1.frozen? ⟨w.heap.size + 1 + 1,0,none⟩ = false:=T1.b3.frozen 0;have yf1_1:w1.frozen? ⟨w.heap.size + 1 + 1,1,none⟩ = false:=T1.b3.frozen 1;have yf1_2:w1.frozen? ⟨w.heap.size + 1 + 1,2,none⟩ = false:=T1.b3.frozen 2;have yf1_3:w1.frozen? ⟨w.heap.size + 1 + 1,3,none⟩ = false:=T1.b3.frozen 3;have yf1_4:w1.frozen? ⟨w.heap.size + 1 + 1,4,none⟩ = false:=T1.b3.frozen 4
  have yf1_5:w1.frozen? ⟨w.heap.size + 1 + 1,5,none⟩ = false:=T1.b3.frozen 5;have yf1_6:w1.frozen? ⟨w.heap.size + 1 + 1,6,none⟩ = false:=T1.b3.frozen 6;have yf1_7:w1.frozen? ⟨w.heap.size + 1 + 1,7,none⟩ = false:=T1.b3.frozen 7;have yf1_8:w1.frozen? ⟨w.heap.size + 1 + 1,8,none⟩ = false:=T1.b3.frozen 8;have V1:Three w (((((((((w1.setCell ⟨w.heap.size + 1 + 1,0,none⟩ (.int .i64 (d.shape 0))).setCell ⟨w.heap.size + 1 + 1,1,none⟩ (.int .i64 (d.shape 1))).setCell ⟨w.heap.size + 1 + 1,2,none⟩ (.int .i64 (d.shape 2))).setCell ⟨w.heap.size + 1 + 1,3,none⟩ (.int .i64 (d.shape 3))).setCell ⟨w.heap.size + 1 + 1,4,none⟩ (.int .i64 (d.shape 4))).setCell ⟨w.heap.size + 1 + 1,5,none⟩ (.int .i64 (d.shape 5))).setCell ⟨w.heap.size + 1 + 1,6,none⟩ (.int .i64 (d.shape 6))).setCell ⟨w.heap.size + 1 + 1,7,none⟩ (.int .i64 (d.shape 7))).setCell ⟨w.heap.size + 1 + 1,8,none⟩ (.int .i64 (d.shape 8))) #[.int .i64 (d.shape 0),.int .i64 (d.shape 1),.int .i64 (d.shape 2),.int .i64 (d.shape 3),.int .i64 (d.shape 4),.int .i64 (d.shape 5),.int .i64 (d.shape 6),.int .i64 (d.shape 7),.int .i64 (d.shape 8),.slice ao1 d.groups.1 cap1,.slice ao2 d.on.1 cap2,.slice ao3 d.tapes.1 cap3,.int .i64 d.writes,.int .i64 d.stop,.bool d.down] #[.int .i64 0,.int .i64 0,.int .i64 0,.int .i64 0,.int .i64 0,.int .i64 0,.int .i64 0,.int .i64 0,.int .i64 0,.slice none 0 0,.slice none 0 0,.slice none 0 0,.int .i64 0,.int .i64 0,.bool false] #[.int .i64 (d.shape 0),.int .i64 (d.shape 1),.int .i64 (d.shape 2),.int .i64 (d.shape 3),.int .i64 (d.shape 4),.int .i64 (d.shape 5),.int .i64 (d.shape 6),.int .i64 (d.shape 7),.int .i64 (d.shape 8),.slice none 0 0,.slice none 0 0,.slice none 0 0,.int .i64 0,.int .i64 0,.bool false] 28 37 37:=T1.st3 0 [.int .i64 (d.shape 0),.int .i64 (d.shape 1),.int .i64 (d.shape 2),.int .i64 (d.shape 3),.int .i64 (d.shape 4),.int .i64 (d.shape 5),.int .i64 (d.shape 6),.int .i64 (d.shape 7),.int .i64 (d.shape 8)] (c3':=[.int .i64 (d.shape 0),.int .i64 (d.shape 1),.int .i64 (d.shape 2),.int .i64 (d.shape 3),.int .i64 (d.shape 4),.int .i64 (d.shape 5),.int .i64 (d.shape 6),.int .i64 (d.shape 7),.int .i64 (d.shape 8),.slice none 0 0,.slice none 0 0,.slice none 0 0,.int .i64 0,.int .i64 0,.bool false]) rfl;clear T1 b1
  go_wp2_with fail
  refine (toDriveSS_is _ d.groups hi _ (((layDrive.slice 98).slice 95).rd_below R1.out V1.bel hhi) (Nat.le_trans hhi V1.bel.size) (by omega)).mono ?_;rintro e w2 ⟨v2,rfl,o2,b2⟩;have L2:=V1.lt;obtain ⟨bo1,bcap1,hv⟩:=sl_formT o2;obtain rfl:=one_eq hv;clear hv;have T2:Three w w2 #[.int .i64 (d.shape 0),.int .i64 (d.shape 1),.int .i64 (d.shape 2),.int .i64 (d.shape 3),.int .i64 (d.shape 4),.int .i64 (d.shape 5),.int .i64 (d.shape 6),.int .i64 (d.shape 7),.int .i64 (d.shape 8),.slice ao1 d.groups.1 cap1,.slice ao2 d.on.1 cap2,.slice ao3 d.tapes.1 cap3,.int .i64 d.writes,.int .i64 d.stop,.bool d.down] #[.int .i64 0,.int .i64 0,.int .i64 0,.int .i64 0,.int .i64 0,.int .i64 0,.int .i64 0,.int .i64 0,.int .i64 0,.slice none 0 0,.slice none 0 0,.slice none 0 0,.int .i64 0,.int .i64 0,.bool false] #[.int .i64 (d.shape 0),.int .i64 (d.shape 1),.int .i64 (d.shape 2),.int .i64 (d.shape 3),.int .i64 (d.shape 4),.int .i64 (d.shape 5),.int .i64 (d.shape 6),.int .i64 (d.shape 7),.int .i64 (d.shape 8),.slice none 0 0,.slice none 0 0,.slice none 0 0,.int .i64 0,.int .i64 0,.bool false] 28 37 37:=V1.call b2;have O1:Hid (OwnT ((layDrive.slice 98).slice 95) w2 (w.heap.size + 1 + 1 + 1) (w2.heap.size) d.groups [.slice bo1 d.groups.1 bcap1]):=o2.weaken (by simp <;> omega) (Nat.le_refl _);clear o2;have LT2:w.heap.size + 1 + 1 + 1 ≤ w2.heap.size:=T2.lt
  have S2:w1.heap.size ≤ w2.heap.size:=by
    have:=b2.size
    simpa using this
  have x2_10:w2.cell? ⟨w.heap.size,10,none⟩ = some (.slice ao2 d.on.1 cap2):=T2.b1.cell 10;have y2_9:w2.cell? ⟨w.heap.size + 1 + 1,9,none⟩ = some (.slice none 0 0):=T2.b3.cell 9;have yf2_9:w2.frozen? ⟨w.heap.size + 1 + 1,9,none⟩ = false:=T2.b3.frozen 9;have V2:Three w (w2.setCell ⟨w.heap.size + 1 + 1,9,none⟩ (.slice bo1 d.groups.1 bcap1)) #[.int .i64 (d.shape 0),.int .i64 (d.shape 1),.int .i64 (d.shape 2),.int .i64 (d.shape 3),.int .i64 (d.shape 4),.int .i64 (d.shape 5),.int .i64 (d.shape 6),.int .i64 (d.shape 7),.int .i64 (d.shape 8),.slice ao1 d.groups.1 cap1,.slice ao2 d.on.1 cap2,.slice ao3 d.tapes.1 cap3,.int .i64 d.writes,.int .i64 d.stop,.bool d.down] #[.int .i64 0,.int .i64 0,.int .i64 0,.int .i64 0,.int .i64 0,.int .i64 0,.int .i64 0,.int .i64 0,.int .i64 0,.slice none 0 0,.slice none 0 0,.slice none 0 0,.int .i64 0,.int .i64 0,.bool false] #[.int .i64 (d.shape 0),.int .i64 (d.shape 1),.int .i64 (d.shape 2),.int .i64 (d.shape 3),.int .i64 (d.shape 4),.int .i64 (d.shape 5),.int .i64 (d.shape 6),.int .i64 (d.shape 7),.int .i64 (d.shape 8),.slice bo1 d.groups.1 bcap1,.slice none 0 0,.slice none 0 0,.int .i64 0,.int .i64 0,.bool false] 28 37 37:=T2.st3 9 [.slice bo1 d.groups.1 bcap1] (c3':=[.int .i64 (d.shape 0),.int .i64 (d.shape 1),.int .i64 (d.shape 2),.int .i64 (d.shape 3),.int .i64 (d.shape 4),.int .i64 (d.shape 5),.int .i64 (d.shape 6),.int .i64 (d.shape 7),.int .i64 (d.shape 8),.slice bo1 d.groups.1 bcap1,.slice none 0 0,.slice none 0 0,.int .i64 0,.int .i64 0,.bool false]) rfl;clear T2 b2
  go_wp2_with fail
  refine (toInts_is _ d.on hi _ (layInts.rd_below R2.out V2.bel hhi) (Nat.le_trans hhi V2.bel.size) (by omega)).mono ?_;rintro e w3 ⟨v3,rfl,o3,b3⟩;have L3:=V2.lt;obtain ⟨bo2,bcap2,hv⟩:=ints_formT o3;obtain rfl:=one_eq hv;clear hv;have T3:Three w w3 #[.int .i64 (d.shape 0),.int .i64 (d.shape 1),.int .i64 (d.shape 2),.int .i64 (d.shape 3),.int .i64 (d.shape 4),.int .i64 (d.shape 5),.int .i64 (d.shape 6),.int .i64 (d.shape 7),.int .i64 (d.shape 8),.slice ao1 d.groups.1 cap1,.slice ao2 d.on.1 cap2,.slice ao3 d.tapes.1 cap3,.int .i64 d.writes,.int .i64 d.stop,.bool d.down] #[.int .i64 0,.int .i64 0,.int .i64 0,.int .i64 0,.int .i64 0,.int .i64 0,.int .i64 0,.int .i64 0,.int .i64 0,.slice none 0 0,.slice none 0 0,.slice none 0 0,.int .i64 0,.int .i64 0,.bool false] #[.int .i64 (d.shape 0),.int .i64 (d.shape 1),.int .i64 (d.shape 2),.int .i64 (d.shape 3),.int .i64 (d.shape 4),.int .i64 (d.shape 5),.int .i64 (d.shape 6),.int .i64 (d.shape 7),.int .i64 (d.shape 8),.slice bo1 d.groups.1 bcap1,.slice none 0 0,.slice none 0 0,.int .i64 0,.int .i64 0,.bool false] 28 37 37:=V2.call b3;have O1x:OwnT ((layDrive.slice 98).slice 95) w3 (w.heap.size + 1 + 1 + 1) (w2.heap.size) d.groups [.slice bo1 d.groups.1 bcap1]:=((O1.out).set (show w.heap.size + 1 + 1 < _ by omega)).call b3;clear O1;have O1:Hid (OwnT ((layDrive.slice 98).slice 95) w3 (w.heap.size + 1 + 1 + 1) (w2.heap.size) d.groups [.slice bo1 d.groups.1 bcap1]):=O1x;clear O1x;have O2:Hid (OwnT layInts w3 (w2.heap.size) (w3.heap.size) d.on [.slice bo2 d.on.1 bcap2]):=o3.weaken (by simp <;> omega) (Nat.le_refl _);clear o3;have LT3:w.heap.size + 1 + 1 + 1 ≤ w3.heap.size:=T3.lt
  have S3:w2.heap.size ≤ w3.heap.size:=by
    have:=b3.size
    simpa using this
  have x3_11:w3.cell? ⟨w.heap.size,11,none⟩ = some (.slice ao3 d.tapes.1 cap3):=T3.b1.cell 11;have y3_10:w3.cell? ⟨w.heap.size + 1 + 1,10,none⟩ = some (.slice none 0 0):=T3.b3.cell 10;have yf3_10:w3.frozen? ⟨w.heap.size + 1 + 1,10,none⟩ = false:=T3.b3.frozen 10;have V3:Three w (w3.setCell ⟨w.heap.size + 1 + 1,10,none⟩ (.slice bo2 d.on.1 bcap2)) #[.int .i64 (d.shape 0),.int .i64 (d.shape 1),.int .i64 (d.shape 2),.int .i64 (d.shape 3),.int .i64 (d.shape 4),.int .i64 (d.shape 5),.int .i64 (d.shape 6),.int .i64 (d.shape 7),.int .i64 (d.shape 8),.slice ao1 d.groups.1 cap1,.slice ao2 d.on.1 cap2,.slice ao3 d.tapes.1 cap3,.int .i64 d.writes,.int .i64 d.stop,.bool d.down] #[.int .i64 0,.int .i64 0,.int .i64 0,.int .i64 0,.int .i64 0,.int .i64 0,.int .i64 0,.int .i64 0,.int .i64 0,.slice none 0 0,.slice none 0 0,.slice none 0 0,.int .i64 0,.int .i64 0,.bool false] #[.int .i64 (d.shape 0),.int .i64 (d.shape 1),.int .i64 (d.shape 2),.int .i64 (d.shape 3),.int .i64 (d.shape 4),.int .i64 (d.shape 5),.int .i64 (d.shape 6),.int .i64 (d.shape 7),.int .i64 (d.shape 8),.slice bo1 d.groups.1 bcap1,.slice bo2 d.on.1 bcap2,.slice none 0 0,.int .i64 0,.int .i64 0,.bool false] 28 37 37:=T3.st3 10 [.slice bo2 d.on.1 bcap2] (c3':=[.int .i64 (d.shape 0),.int .i64 (d.shape 1),.int .i64 (d.shape 2),.int .i64 (d.shape 3),.int .i64 (d.shape 4),.int .i64 (d.shape 5),.int .i64 (d.shape 6),.int .i64 (d.shape 7),.int .i64 (d.shape 8),.slice bo1 d.groups.1 bcap1,.slice bo2 d.on.1 bcap2,.slice none 0 0,.int .i64 0,.int .i64 0,.bool false]) rfl;clear T3 b3
  go_wp2_with fail
  refine (toTapeS_is _ d.tapes hi _ ((layTape.slice 90).rd_below R3.out V3.bel hhi) (Nat.le_trans hhi V3.bel.size) (by omega)).mono ?_;rintro e w4 ⟨v4,rfl,o4,b4⟩;have L4:=V3.lt;obtain ⟨bo3,bcap3,hv⟩:=sl_formT o4;obtain rfl:=one_eq hv;clear hv;have T4:Three w w4 #[.int .i64 (d.shape 0),.int .i64 (d.shape 1),.int .i64 (d.shape 2),.int .i64 (d.shape 3),.int .i64 (d.shape 4),.int .i64 (d.shape 5),.int .i64 (d.shape 6),.int .i64 (d.shape 7),.int .i64 (d.shape 8),.slice ao1 d.groups.1 cap1,.slice ao2 d.on.1 cap2,.slice ao3 d.tapes.1 cap3,.int .i64 d.writes,.int .i64 d.stop,.bool d.down] #[.int .i64 0,.int .i64 0,.int .i64 0,.int .i64 0,.int .i64 0,.int .i64 0,.int .i64 0,.int .i64 0,.int .i64 0,.slice none 0 0,.slice none 0 0,.slice none 0 0,.int .i64 0,.int .i64 0,.bool false] #[.int .i64 (d.shape 0),.int .i64 (d.shape 1),.int .i64 (d.shape 2),.int .i64 (d.shape 3),.int .i64 (d.shape 4),.int .i64 (d.shape 5),.int .i64 (d.shape 6),.int .i64 (d.shape 7),.int .i64 (d.shape 8),.slice bo1 d.groups.1 bcap1,.slice bo2 d.on.1 bcap2,.slice none 0 0,.int .i64 0,.int .i64 0,.bool false] 28 37 37:=V3.call b4;have O1x:OwnT ((layDrive.slice 98).slice 95) w4 (w.heap.size + 1 + 1 + 1) (w2.heap.size) d.groups [.slice bo1 d.groups.1 bcap1]:=((O1.out).set (show w.heap.size + 1 + 1 < _ by omega)).call b4;clear O1;have O1:Hid (OwnT ((layDrive.slice 98).slice 95) w4 (w.heap.size + 1 + 1 + 1) (w2.heap.size) d.groups [.slice bo1 d.groups.1 bcap1]):=O1x;clear O1x;have O2x:OwnT layInts w4 (w2.heap.size) (w3.heap.size) d.on [.slice bo2 d.on.1 bcap2]:=((O2.out).set (show w.heap.size + 1 + 1 < _ by omega)).call b4;clear O2;have O2:Hid (OwnT layInts w4 (w2.heap.size) (w3.heap.size) d.on [.slice bo2 d.on.1 bcap2]):=O2x;clear O2x;have O3:Hid (OwnT (layTape.slice 90) w4 (w3.heap.size) (w4.heap.size) d.tapes [.slice bo3 d.tapes.1 bcap3]):=o4.weaken (by simp <;> omega) (Nat.le_refl _);clear o4;have LT4:w.heap.size + 1 + 1 + 1 ≤ w4.heap.size:=T4.lt
  have S4:w3.heap.size ≤ w4.heap.size:=by
    have:=b4.size
    simpa using this
  have x4_12:w4.cell? ⟨w.heap.size,12,none⟩ = some (.int .i64 d.writes):=T4.b1.cell 12;have x4_13:w4.cell? ⟨w.heap.size,13,none⟩ = some (.int .i64 d.stop):=T4.b1.cell 13;have x4_14:w4.cell? ⟨w.heap.size,14,none⟩ = some (.bool d.down):=T4.b1.cell 14;have y4_0:w4.cell? ⟨w.heap.size + 1 + 1,0,none⟩ = some (.int .i64 (d.shape 0)):=T4.b3.cell 0;have y4_1:w4.cell? ⟨w.heap.size + 1 + 1,1,none⟩ = some (.int .i64 (d.shape 1)):=T4.b3.cell 1;have y4_2:w4.cell? ⟨w.heap.size + 1 + 1,2,none⟩ = some (.int .i64 (d.shape 2)):=T4.b3.cell 2;have y4_3:w4.cell? ⟨w.heap.size + 1 + 1,3,none⟩ = some (.int .i64 (d.shape 3)):=T4.b3.cell 3;have y4_4:w4.cell? ⟨w.heap.size + 1 + 1,4,none⟩ = some (.int .i64 (d.shape 4)):=T4.b3.cell 4;have y4_5:w4.cell? ⟨w.heap.size + 1 + 1,5,none⟩ = some (.int .i64 (d.shape 5)):=T4.b3.cell 5;have y4_6:w4.cell? ⟨w.heap.size + 1 + 1,6,none⟩ = some (.int .i64 (d.shape 6)):=T4.b3.cell 6;have y4_7:w4.cell? ⟨w.heap.size + 1 + 1,7,none⟩ = some (.int .i64 (d.shape 7)):=T4.b3.cell 7;have y4_8:w4.cell? ⟨w.heap.size + 1 + 1,8,none⟩ = some (.int .i64 (d.shape 8)):=T4.b3.cell 8;have y4_9:w4.cell? ⟨w.heap.size + 1 + 1,9,none⟩ = some (.slice bo1 d.groups.1 bcap1):=T4.b3.cell 9;have y4_10:w4.cell? ⟨w.heap.size + 1 + 1,10,none⟩ = some (.slice bo2 d.on.1 bcap2):=T4.b3.cell 10;have y4_11:w4.cell? ⟨w.heap.size + 1 + 1,11,none⟩ = some (.slice none 0 0):=T4.b3.cell 11;have y4_12:w4.cell? ⟨w.heap.size + 1 + 1,12,none⟩ = some (.int .i64 0):=T4.b3.cell 12;have y4_13:w4.cell? ⟨w.heap.size + 1 + 1,13,none⟩ = some (.int .i64 0):=T4.b3.cell 13;have y4_14:w4.cell? ⟨w.heap.size + 1 + 1,14,none⟩ = some (.bool false):=T4.b3.cell 14;have yf4_11:w4.frozen? ⟨w.heap.size + 1 + 1,11,none⟩ = false:=T4.b3.frozen 11;have yf4_12:w4.frozen? ⟨w.heap.size + 1 + 1,12,none⟩ = false:=T4.b3.frozen 12;have yf4_13:w4.frozen? ⟨w.heap.size + 1 + 1,13,none⟩ = false:=T4.b3.frozen 13;have yf4_14:w4.frozen? ⟨w.heap.size + 1 + 1,14,none⟩ = false:=T4.b3.frozen 14;have z4_0:w4.cell? ⟨w.heap.size + 1,0,none⟩ = some (.int .i64 0):=T4.b2.cell 0;have zf4_0:w4.frozen? ⟨w.heap.size + 1,0,none⟩ = false:=T4.b2.frozen 0;have z4_1:w4.cell? ⟨w.heap.size + 1,1,none⟩ = some (.int .i64 0):=T4.b2.cell 1;have zf4_1:w4.frozen? ⟨w.heap.size + 1,1,none⟩ = false:=T4.b2.frozen 1;have z4_2:w4.cell? ⟨w.heap.size + 1,2,none⟩ = some (.int .i64 0):=T4.b2.cell 2;have zf4_2:w4.frozen? ⟨w.heap.size + 1,2,none⟩ = false:=T4.b2.frozen 2;have z4_3:w4.cell? ⟨w.heap.size + 1,3,none⟩ = some (.int .i64 0):=T4.b2.cell 3;have zf4_3:w4.frozen? ⟨w.heap.size + 1,3,none⟩ = false:=T4.b2.frozen 3;have z4_4:w4.cell? ⟨w.heap.size + 1,4,none⟩ = some (.int .i64 0):=T4.b2.cell 4;have zf4_4:w4.frozen? ⟨w.heap.size + 1,4,none⟩ = false:=T4.b2.frozen 4;have z4_5:w4.cell? ⟨w.heap.size + 1,5,none⟩ = some (.int .i64 0):=T4.b2.cell 5;have zf4_5:w4.frozen? ⟨w.heap.size + 1,5,none⟩ = false:=T4.b2.frozen 5
  have z4_6:w4.cell? ⟨w.heap.size + 1,6,none⟩ = some (.int .i64 0):=T4.b2.cell 6;have zf4_6:w4.frozen? ⟨w.heap.size + 1,6,none⟩ = false:=T4.b2.frozen 6;have z4_7:w4.cell? ⟨w.heap.size + 1,7,none⟩ = some (.int .i64 0):=T4.b2.cell 7;have zf4_7:w4.frozen? ⟨w.heap.size + 1,7,none⟩ = false:=T4.b2.frozen 7;have z4_8:w4.cell? ⟨w.heap.size + 1,8,none⟩ = some (.int .i64 0):=T4.b2.cell 8;have zf4_8:w4.frozen? ⟨w.heap.size + 1,8,none⟩ = false:=T4.b2.frozen 8;have z4_9:w4.cell? ⟨w.heap.size + 1,9,none⟩ = some (.slice none 0 0):=T4.b2.cell 9;have zf4_9:w4.frozen? ⟨w.heap.size + 1,9,none⟩ = false:=T4.b2.frozen 9;have z4_10:w4.cell? ⟨w.heap.size + 1,10,none⟩ = some (.slice none 0 0):=T4.b2.cell 10;have zf4_10:w4.frozen? ⟨w.heap.size + 1,10,none⟩ = false:=T4.b2.frozen 10;have z4_11:w4.cell? ⟨w.heap.size + 1,11,none⟩ = some (.slice none 0 0):=T4.b2.cell 11;have zf4_11:w4.frozen? ⟨w.heap.size + 1,11,none⟩ = false:=T4.b2.frozen 11;have z4_12:w4.cell? ⟨w.heap.size + 1,12,none⟩ = some (.int .i64 0):=T4.b2.cell 12;have zf4_12:w4.frozen? ⟨w.heap.size + 1,12,none⟩ = false:=T4.b2.frozen 12;have z4_13:w4.cell? ⟨w.heap.size + 1,13,none⟩ = some (.int .i64 0):=T4.b2.cell 13;have zf4_13:w4.frozen? ⟨w.heap.size + 1,13,none⟩ = false:=T4.b2.frozen 13;have z4_14:w4.cell? ⟨w.heap.size + 1,14,none⟩ = some (.bool false):=T4.b2.cell 14;have zf4_14:w4.frozen? ⟨w.heap.size + 1,14,none⟩ = false:=T4.b2.frozen 14;have Bq:Hid (Below w.heap.size w w4):=T4.bel;clear T4 b4;go_wp2;refine bodyPost_ret (v:=.agg #[.int .i64 (d.shape 0),.int .i64 (d.shape 1),.int .i64 (d.shape 2),.int .i64 (d.shape 3),.int .i64 (d.shape 4),.int .i64 (d.shape 5),.int .i64 (d.shape 6),.int .i64 (d.shape 7),.int .i64 (d.shape 8),.slice bo1 d.groups.1 bcap1,.slice bo2 d.on.1 bcap2,.slice bo3 d.tapes.1 bcap3,.int .i64 d.writes,.int .i64 d.stop,.bool d.down]) (by simp [results,Tryz.results8,go_sem,y4_0,z4_0,y4_1,z4_1,y4_2,z4_2,y4_3,z4_3,y4_4,z4_4,y4_5,z4_5,y4_6,z4_6,y4_7,z4_7,y4_8,z4_8,y4_9,z4_9,y4_10,z4_10,y4_11,z4_11,y4_12,z4_12,y4_13,z4_13,y4_14,z4_14]) rfl ?_;have F:OwnT layWorld w4 (w.heap.size + 1 + 1 + 1) w4.heap.size d ([.int .i64 (d.shape 0),.int .i64 (d.shape 1),.int .i64 (d.shape 2),.int .i64 (d.shape 3),.int .i64 (d.shape 4),.int .i64 (d.shape 5),.int .i64 (d.shape 6),.int .i64 (d.shape 7),.int .i64 (d.shape 8)] ++ ([.slice bo1 d.groups.1 bcap1] ++ ([.slice bo2 d.on.1 bcap2] ++ ([.slice bo3 d.tapes.1 bcap3] ++ ([.int .i64 d.writes] ++ ([.int .i64 d.stop] ++ [.bool d.down])))))):=OwnT.conv (OwnT.pre (A:=(layNums 9)) (a:=d.shape) (c:=[.int .i64 (d.shape 0),.int .i64 (d.shape 1),.int .i64 (d.shape 2),.int .i64 (d.shape 3),.int .i64 (d.shape 4),.int .i64 (d.shape 5),.int .i64 (d.shape 6),.int .i64 (d.shape 7),.int .i64 (d.shape 8)]) ⟨rfl,Q0.out,rfl⟩ (OwnT.two O1.out (OwnT.two O2.out (OwnT.two O3.out (OwnT.pre (A:=layI) (a:=d.writes) (c:=[.int .i64 d.writes]) ⟨rfl,Q4.out,rfl⟩ (OwnT.pre (A:=layI) (a:=d.stop) (c:=[.int .i64 d.stop]) ⟨rfl,Q5.out,rfl⟩ (OwnT.nil (A:=layB) (a:=d.down) (c:=[.bool d.down]) ⟨rfl,trivial,rfl⟩ w4.heap.size w4.heap.size))) (by omega) (by omega) (by omega)) (by omega) (by omega) (by omega)) (by omega) (by omega) (by omega)))
  exact ⟨[.int .i64 (d.shape 0),.int .i64 (d.shape 1),.int .i64 (d.shape 2),.int .i64 (d.shape 3),.int .i64 (d.shape 4),.int .i64 (d.shape 5),.int .i64 (d.shape 6),.int .i64 (d.shape 7),.int .i64 (d.shape 8),.slice bo1 d.groups.1 bcap1,.slice bo2 d.on.1 bcap2,.slice bo3 d.tapes.1 bcap3,.int .i64 d.writes,.int .i64 d.stop,.bool d.down],rfl,OwnT.fin F 11 0 [.slice bo3 d.tapes.1 bcap3,.int .i64 d.writes,.int .i64 d.stop,.bool d.down] [.int .i64 (d.shape 0),.int .i64 (d.shape 1),.int .i64 (d.shape 2),.int .i64 (d.shape 3),.int .i64 (d.shape 4),.int .i64 (d.shape 5),.int .i64 (d.shape 6),.int .i64 (d.shape 7),.int .i64 (d.shape 8),.slice bo1 d.groups.1 bcap1,.slice bo2 d.on.1 bcap2,.slice bo3 d.tapes.1 bcap3,.int .i64 d.writes,.int .i64 d.stop,.bool d.down] _ rfl,below_fin Bq.out 11 0 [.slice bo3 d.tapes.1 bcap3,.int .i64 d.writes,.int .i64 d.stop,.bool d.down] [.int .i64 (d.shape 0),.int .i64 (d.shape 1),.int .i64 (d.shape 2),.int .i64 (d.shape 3),.int .i64 (d.shape 4),.int .i64 (d.shape 5),.int .i64 (d.shape 6),.int .i64 (d.shape 7),.int .i64 (d.shape 8),.slice bo1 d.groups.1 bcap1,.slice bo2 d.on.1 bcap2,.slice bo3 d.tapes.1 bcap3,.int .i64 d.writes,.int .i64 d.stop,.bool d.down] _ rfl⟩
end Go.Proofs.YtbjblbbbafiepaaGreat
namespace Go.Proofs.YtbjblbbbafiepaaGreat
open Go.RowKit F256
set_option maxHeartbeats 8000000 in
set_option maxRecDepth 20000 in
theorem eqBlock_is:EqV layBlock 142:=fun c1 c2 d h1 h2 w r1 r2 u1 u2 => by
  obtain ⟨ao1,cap1,rfl,g1,-⟩:=Block_rd r1;obtain ⟨bao1,bcap1,rfl,q1,-⟩:=Block_rd r2;clear r1 r2;have G1:Hid (layBytes.rd w h1 d.bytes [.slice ao1 d.bytes.1 cap1]):=g1;have E1:Hid (layBytes.rd w h2 d.bytes [.slice bao1 d.bytes.1 bcap1]):=q1;clear g1 q1
  go_enter Tryz.func142,Tryz.ntmps142
  go_wp2_with fail
  have T0:=two_newb w #[.int .i64 d.stamp,.slice ao1 d.bytes.1 cap1] #[.int .i64 d.stamp,.slice bao1 d.bytes.1 bcap1] 111 111;refine (eqBytes_is _ _ d.bytes h1 h2 _ (layBytes.rd_below G1.out T0.bel u1) (layBytes.rd_below E1.out T0.bel u2) (Nat.le_trans u1 T0.bel.size) (Nat.le_trans u2 T0.bel.size)).mono ?_;rintro e w1 ⟨rfl,b1⟩;have T1:Two w w1 #[.int .i64 d.stamp,.slice ao1 d.bytes.1 cap1] #[.int .i64 d.stamp,.slice bao1 d.bytes.1 bcap1] 111 111:=T0.call b1;clear T0 b1;have B:Hid (Below w.heap.size w w1):=T1.bel;clear T1;go_wp2;go_ret;exact ⟨rfl,B.out⟩
set_option maxHeartbeats 4000000 in
theorem eqBlockS_is:EqS (layBlock.slice 111) 126:=fun v1 v2 d h1 h2 w r1 r2 u1 u2 => by
  obtain ⟨n,x⟩:=d;obtain ⟨ao,cap,hv,hm,hc⟩:=r1
  cases hv
  obtain ⟨ao',cap',hv',hm',hc'⟩:=r2
  cases hv'
  simp only at hm hc hc'
  unfold maxLen at hm;clear hm'
  go_enter Tryz.func126,Tryz.ntmps126
  go_wp2
  go_loopw [5] (fun i wr => ∃ k:Nat,k ≤ n ∧ i = .int .i64 k ∧ Below w.heap.size w wr) (fun i _ => n - (intOf i).toNat)
  case atStart => exact ⟨0,Nat.zero_le _,rfl,Below.refl _ _⟩
  case round =>
    obtain ⟨k,hk,rfl,hb⟩:=hrel
    by_cases hlt:k < n
    · obtain ⟨b,off,rfl,hblt,hel⟩:=hc (by omega)
      obtain ⟨b',off',rfl,hblt',hel'⟩:=hc' (by omega);obtain ⟨ck,hrk,hcell⟩:=elem_rd (t:=0) hel (below_drewN hb 1) u1 hblt hlt;obtain ⟨ck',hrk',hcell'⟩:=elem_rd (t:=0) hel' (below_drewN hb 1) u2 hblt' hlt;obtain ⟨ao1,cap1,rfl,-⟩:=Block_rd hrk;obtain ⟨bao1,bcap1,rfl,-⟩:=Block_rd hrk';have c0:wr.cell? ⟨b,off + k * 2,none⟩ = some (.int .i64 (x k).stamp):=hcell 0 (by decide);have c1:wr.cell? ⟨b,off + k * 2 + 1,none⟩ = some (.slice ao1 (x k).bytes.1 cap1):=hcell 1 (by decide);have e0:wr.cell? ⟨b',off' + k * 2,none⟩ = some (.int .i64 (x k).stamp):=hcell' 0 (by decide);have e1:wr.cell? ⟨b',off' + k * 2 + 1,none⟩ = some (.slice bao1 (x k).bytes.1 bcap1):=hcell' 1 (by decide);have C1:=eqBlock_is _ _ (x k) h1 h2 (wr.drewN 1) hrk hrk' (Nat.le_trans u1 hb.size) (Nat.le_trans u2 hb.size);clear hc hc' hel hel' hcell hcell' hrk hrk';go_wp2
      go_region_with (go_at_call 142;refine C1.mono ?_;rintro ee w2 ⟨rfl,hb2⟩)
      all_goals
        have R':Below w.heap.size w w2:=hb.trans ((below_drewN (Below.refl wr.heap.size wr) 1).trans hb2 |>.mono hb.size);clear hb2;go_wp2
        go_roundw
        case rel => exact ⟨k + 1,by omega,by go_num,R'⟩
        case measure => simp [intOf];omega
    · obtain rfl:k = n:=by omega
      go_wp2;go_ret;exact ⟨rfl,hb⟩
set_option maxHeartbeats 8000000 in
set_option maxRecDepth 20000 in
theorem eqDrive_is:EqV layDrive 102:=fun c1 c2 d h1 h2 w r1 r2 u1 u2 => by
  obtain ⟨ao1,cap1,rfl,g1⟩:=Drive_rd r1;obtain ⟨bao1,bcap1,rfl,q1⟩:=Drive_rd r2;clear r1 r2;have G1:Hid ((layBlock.slice 111).rd w h1 d.blocks [.slice ao1 d.blocks.1 cap1]):=g1;have E1:Hid ((layBlock.slice 111).rd w h2 d.blocks [.slice bao1 d.blocks.1 bcap1]):=q1;clear g1 q1
  go_enter Tryz.func102,Tryz.ntmps102
  go_wp2_with fail
  have T0:=two_newb w #[.bool d.wiped,.slice ao1 d.blocks.1 cap1] #[.bool d.wiped,.slice bao1 d.blocks.1 bcap1] 98 98;refine (eqBlockS_is _ _ d.blocks h1 h2 _ ((layBlock.slice 111).rd_below G1.out T0.bel u1) ((layBlock.slice 111).rd_below E1.out T0.bel u2) (Nat.le_trans u1 T0.bel.size) (Nat.le_trans u2 T0.bel.size)).mono ?_;rintro e w1 ⟨rfl,b1⟩;have T1:Two w w1 #[.bool d.wiped,.slice ao1 d.blocks.1 cap1] #[.bool d.wiped,.slice bao1 d.blocks.1 bcap1] 98 98:=T0.call b1;clear T0 b1;have B:Hid (Below w.heap.size w w1):=T1.bel;clear T1;go_wp2;go_ret;exact ⟨rfl,B.out⟩
set_option maxHeartbeats 4000000 in
theorem eqDriveS_is:EqS (layDrive.slice 98) 70:=fun v1 v2 d h1 h2 w r1 r2 u1 u2 => by
  obtain ⟨n,x⟩:=d;obtain ⟨ao,cap,hv,hm,hc⟩:=r1
  cases hv
  obtain ⟨ao',cap',hv',hm',hc'⟩:=r2
  cases hv'
  simp only at hm hc hc'
  unfold maxLen at hm;clear hm'
  go_enter Tryz.func70,Tryz.ntmps70
  go_wp2
  go_loopw [5] (fun i wr => ∃ k:Nat,k ≤ n ∧ i = .int .i64 k ∧ Below w.heap.size w wr) (fun i _ => n - (intOf i).toNat)
  case atStart => exact ⟨0,Nat.zero_le _,rfl,Below.refl _ _⟩
  case round =>
    obtain ⟨k,hk,rfl,hb⟩:=hrel
    by_cases hlt:k < n
    · obtain ⟨b,off,rfl,hblt,hel⟩:=hc (by omega)
      obtain ⟨b',off',rfl,hblt',hel'⟩:=hc' (by omega);obtain ⟨ck,hrk,hcell⟩:=elem_rd (t:=0) hel (below_drewN hb 1) u1 hblt hlt;obtain ⟨ck',hrk',hcell'⟩:=elem_rd (t:=0) hel' (below_drewN hb 1) u2 hblt' hlt;obtain ⟨ao1,cap1,rfl,-⟩:=Drive_rd hrk;obtain ⟨bao1,bcap1,rfl,-⟩:=Drive_rd hrk';have c0:wr.cell? ⟨b,off + k * 2,none⟩ = some (.bool (x k).wiped):=hcell 0 (by decide);have c1:wr.cell? ⟨b,off + k * 2 + 1,none⟩ = some (.slice ao1 (x k).blocks.1 cap1):=hcell 1 (by decide);have e0:wr.cell? ⟨b',off' + k * 2,none⟩ = some (.bool (x k).wiped):=hcell' 0 (by decide);have e1:wr.cell? ⟨b',off' + k * 2 + 1,none⟩ = some (.slice bao1 (x k).blocks.1 bcap1):=hcell' 1 (by decide);have C1:=eqDrive_is _ _ (x k) h1 h2 (wr.drewN 1) hrk hrk' (Nat.le_trans u1 hb.size) (Nat.le_trans u2 hb.size);clear hc hc' hel hel' hcell hcell' hrk hrk';go_wp2
      go_region_with (go_at_call 102;refine C1.mono ?_;rintro ee w2 ⟨rfl,hb2⟩)
      all_goals
        have R':Below w.heap.size w w2:=hb.trans ((below_drewN (Below.refl wr.heap.size wr) 1).trans hb2 |>.mono hb.size);clear hb2;go_wp2
        go_roundw
        case rel => exact ⟨k + 1,by omega,by go_num,R'⟩
        case measure => simp [intOf];omega
    · obtain rfl:k = n:=by omega
      go_wp2;go_ret;exact ⟨rfl,hb⟩
set_option maxHeartbeats 4000000 in
theorem eqDriveSS_is:EqS ((layDrive.slice 98).slice 95) 38:=fun v1 v2 d h1 h2 w r1 r2 u1 u2 => by
  obtain ⟨n,x⟩:=d;obtain ⟨ao,cap,hv,hm,hc⟩:=r1
  cases hv
  obtain ⟨ao',cap',hv',hm',hc'⟩:=r2
  cases hv'
  simp only at hm hc hc'
  unfold maxLen at hm;clear hm'
  go_enter Tryz.func38,Tryz.ntmps38
  go_wp2
  go_loopw [5] (fun i wr => ∃ k:Nat,k ≤ n ∧ i = .int .i64 k ∧ Below w.heap.size w wr) (fun i _ => n - (intOf i).toNat)
  case atStart => exact ⟨0,Nat.zero_le _,rfl,Below.refl _ _⟩
  case round =>
    obtain ⟨k,hk,rfl,hb⟩:=hrel
    by_cases hlt:k < n
    · obtain ⟨b,off,rfl,hblt,hel⟩:=hc (by omega)
      obtain ⟨b',off',rfl,hblt',hel'⟩:=hc' (by omega);obtain ⟨ck,hrk,hcell⟩:=elem_rd (t:=0) hel (below_drewN hb 1) u1 hblt hlt;obtain ⟨ck',hrk',hcell'⟩:=elem_rd (t:=0) hel' (below_drewN hb 1) u2 hblt' hlt;obtain ⟨ao9,cap9,rfl⟩:=sl_form hrk;obtain ⟨bao9,bcap9,rfl⟩:=sl_form hrk'
      have c0:wr.cell? ⟨b,off + k,none⟩ = some (.slice ao9 (x k).1 cap9):=by
        have h:=hcell 0 (show 0 < 1 by decide);rw [show (layDrive.slice 98).sz = 1 from rfl,Nat.mul_one,Nat.add_zero] at h;exact h
      have e0:wr.cell? ⟨b',off' + k,none⟩ = some (.slice bao9 (x k).1 bcap9):=by
        have h:=hcell' 0 (show 0 < 1 by decide);rw [show (layDrive.slice 98).sz = 1 from rfl,Nat.mul_one,Nat.add_zero] at h;exact h
      have C1:=eqDriveS_is _ _ (x k) h1 h2 (wr.drewN 1) hrk hrk' (Nat.le_trans u1 hb.size) (Nat.le_trans u2 hb.size);clear hc hc' hel hel' hcell hcell' hrk hrk';go_wp2
      go_region_with (go_at_call 70;refine C1.mono ?_;rintro ee w2 ⟨rfl,hb2⟩)
      all_goals
        have R':Below w.heap.size w w2:=hb.trans ((below_drewN (Below.refl wr.heap.size wr) 1).trans hb2 |>.mono hb.size);clear hb2;go_wp2
        go_roundw
        case rel => exact ⟨k + 1,by omega,by go_num,R'⟩
        case measure => simp [intOf];omega
    · obtain rfl:k = n:=by omega
      go_wp2;go_ret;exact ⟨rfl,hb⟩
end Go.Proofs.YtbjblbbbafiepaaGreat
namespace Go.Proofs.YtbjblbbbafiepaaGreat
open Go.RowKit F256
set_option maxHeartbeats 8000000 in
set_option maxRecDepth 20000 in
theorem eqRec_is:EqV layRec 127:=fun c1 c2 d h1 h2 w r1 r2 u1 u2 => by
  obtain ⟨ao6,cap6,ao7,cap7,ao8,cap8,rfl,g6,g7,g8,-⟩:=Rec_rd r1;obtain ⟨bao6,bcap6,bao7,bcap7,bao8,bcap8,rfl,q6,q7,q8,-⟩:=Rec_rd r2;clear r1 r2;have G6:Hid (layInts.rd w h1 d.rows [.slice ao6 d.rows.1 cap6]):=g6;have E6:Hid (layInts.rd w h2 d.rows [.slice bao6 d.rows.1 bcap6]):=q6;have G7:Hid (layBytes.rd w h1 d.data [.slice ao7 d.data.1 cap7]):=g7;have E7:Hid (layBytes.rd w h2 d.data [.slice bao7 d.data.1 bcap7]):=q7;have G8:Hid (layBytes.rd w h1 d.delta [.slice ao8 d.delta.1 cap8]):=g8;have E8:Hid (layBytes.rd w h2 d.delta [.slice bao8 d.delta.1 bcap8]):=q8;clear g6 q6 g7 q7 g8 q8
  go_enter Tryz.func127,Tryz.ntmps127
  go_wp2_with fail
  have T0:=two_newb w #[.int .i64 d.kind,.int .i64 d.seq,.string d.name,.int .i64 d.length,.int .i64 d.group,.int .i64 d.row,.slice ao6 d.rows.1 cap6,.slice ao7 d.data.1 cap7,.slice ao8 d.delta.1 cap8] #[.int .i64 d.kind,.int .i64 d.seq,.string d.name,.int .i64 d.length,.int .i64 d.group,.int .i64 d.row,.slice bao6 d.rows.1 bcap6,.slice bao7 d.data.1 bcap7,.slice bao8 d.delta.1 bcap8] 93 93;refine (eqInts_is _ _ d.rows h1 h2 _ (layInts.rd_below G6.out T0.bel u1) (layInts.rd_below E6.out T0.bel u2) (Nat.le_trans u1 T0.bel.size) (Nat.le_trans u2 T0.bel.size)).mono ?_;rintro e w1 ⟨rfl,b1⟩;have T1:Two w w1 #[.int .i64 d.kind,.int .i64 d.seq,.string d.name,.int .i64 d.length,.int .i64 d.group,.int .i64 d.row,.slice ao6 d.rows.1 cap6,.slice ao7 d.data.1 cap7,.slice ao8 d.delta.1 cap8] #[.int .i64 d.kind,.int .i64 d.seq,.string d.name,.int .i64 d.length,.int .i64 d.group,.int .i64 d.row,.slice bao6 d.rows.1 bcap6,.slice bao7 d.data.1 bcap7,.slice bao8 d.delta.1 bcap8] 93 93:=T0.call b1;clear T0 b1;have x1_7:w1.cell? ⟨w.heap.size,7,none⟩ = some (.slice ao7 d.data.1 cap7):=T1.b1.cell 7;have y1_7:w1.cell? ⟨w.heap.size + 1,7,none⟩ = some (.slice bao7 d.data.1 bcap7):=T1.b2.cell 7
  go_wp2_with fail
  refine (eqBytes_is _ _ d.data h1 h2 _ (layBytes.rd_below G7.out T1.bel u1) (layBytes.rd_below E7.out T1.bel u2) (Nat.le_trans u1 T1.bel.size) (Nat.le_trans u2 T1.bel.size)).mono ?_;rintro e w2 ⟨rfl,b2⟩;have T2:Two w w2 #[.int .i64 d.kind,.int .i64 d.seq,.string d.name,.int .i64 d.length,.int .i64 d.group,.int .i64 d.row,.slice ao6 d.rows.1 cap6,.slice ao7 d.data.1 cap7,.slice ao8 d.delta.1 cap8] #[.int .i64 d.kind,.int .i64 d.seq,.string d.name,.int .i64 d.length,.int .i64 d.group,.int .i64 d.row,.slice bao6 d.rows.1 bcap6,.slice bao7 d.data.1 bcap7,.slice bao8 d.delta.1 bcap8] 93 93:=T1.call b2;clear T1 b2;have x2_8:w2.cell? ⟨w.heap.size,8,none⟩ = some (.slice ao8 d.delta.1 cap8):=T2.b1.cell 8;have y2_8:w2.cell? ⟨w.heap.size + 1,8,none⟩ = some (.slice bao8 d.delta.1 bcap8):=T2.b2.cell 8
  go_wp2_with fail
  refine (eqBytes_is _ _ d.delta h1 h2 _ (layBytes.rd_below G8.out T2.bel u1) (layBytes.rd_below E8.out T2.bel u2) (Nat.le_trans u1 T2.bel.size) (Nat.le_trans u2 T2.bel.size)).mono ?_;rintro e w3 ⟨rfl,b3⟩;have T3:Two w w3 #[.int .i64 d.kind,.int .i64 d.seq,.string d.name,.int .i64 d.length,.int .i64 d.group,.int .i64 d.row,.slice ao6 d.rows.1 cap6,.slice ao7 d.data.1 cap7,.slice ao8 d.delta.1 cap8] #[.int .i64 d.kind,.int .i64 d.seq,.string d.name,.int .i64 d.length,.int .i64 d.group,.int .i64 d.row,.slice bao6 d.rows.1 bcap6,.slice bao7 d.data.1 bcap7,.slice bao8 d.delta.1 bcap8] 93 93:=T2.call b3;clear T2 b3;have B:Hid (Below w.heap.size w w3):=T3.bel;clear T3;go_wp2;go_ret;exact ⟨rfl,B.out⟩
set_option maxHeartbeats 4000000 in
theorem eqRecS_is:EqS (layRec.slice 93) 103:=fun v1 v2 d h1 h2 w r1 r2 u1 u2 => by
  obtain ⟨n,x⟩:=d;obtain ⟨ao,cap,hv,hm,hc⟩:=r1
  cases hv
  obtain ⟨ao',cap',hv',hm',hc'⟩:=r2
  cases hv'
  simp only at hm hc hc'
  unfold maxLen at hm;clear hm'
  go_enter Tryz.func103,Tryz.ntmps103
  go_wp2
  go_loopw [5] (fun i wr => ∃ k:Nat,k ≤ n ∧ i = .int .i64 k ∧ Below w.heap.size w wr) (fun i _ => n - (intOf i).toNat)
  case atStart => exact ⟨0,Nat.zero_le _,rfl,Below.refl _ _⟩
  case round =>
    obtain ⟨k,hk,rfl,hb⟩:=hrel
    by_cases hlt:k < n
    · obtain ⟨b,off,rfl,hblt,hel⟩:=hc (by omega)
      obtain ⟨b',off',rfl,hblt',hel'⟩:=hc' (by omega);obtain ⟨ck,hrk,hcell⟩:=elem_rd (t:=0) hel (below_drewN hb 1) u1 hblt hlt;obtain ⟨ck',hrk',hcell'⟩:=elem_rd (t:=0) hel' (below_drewN hb 1) u2 hblt' hlt;obtain ⟨ao6,cap6,ao7,cap7,ao8,cap8,rfl,-⟩:=Rec_rd hrk;obtain ⟨bao6,bcap6,bao7,bcap7,bao8,bcap8,rfl,-⟩:=Rec_rd hrk';have c0:wr.cell? ⟨b,off + k * 9,none⟩ = some (.int .i64 (x k).kind):=hcell 0 (by decide);have c1:wr.cell? ⟨b,off + k * 9 + 1,none⟩ = some (.int .i64 (x k).seq):=hcell 1 (by decide);have c2:wr.cell? ⟨b,off + k * 9 + 2,none⟩ = some (.string (x k).name):=hcell 2 (by decide);have c3:wr.cell? ⟨b,off + k * 9 + 3,none⟩ = some (.int .i64 (x k).length):=hcell 3 (by decide);have c4:wr.cell? ⟨b,off + k * 9 + 4,none⟩ = some (.int .i64 (x k).group):=hcell 4 (by decide);have c5:wr.cell? ⟨b,off + k * 9 + 5,none⟩ = some (.int .i64 (x k).row):=hcell 5 (by decide);have c6:wr.cell? ⟨b,off + k * 9 + 6,none⟩ = some (.slice ao6 (x k).rows.1 cap6):=hcell 6 (by decide);have c7:wr.cell? ⟨b,off + k * 9 + 7,none⟩ = some (.slice ao7 (x k).data.1 cap7):=hcell 7 (by decide);have c8:wr.cell? ⟨b,off + k * 9 + 8,none⟩ = some (.slice ao8 (x k).delta.1 cap8):=hcell 8 (by decide);have e0:wr.cell? ⟨b',off' + k * 9,none⟩ = some (.int .i64 (x k).kind):=hcell' 0 (by decide);have e1:wr.cell? ⟨b',off' + k * 9 + 1,none⟩ = some (.int .i64 (x k).seq):=hcell' 1 (by decide);have e2:wr.cell? ⟨b',off' + k * 9 + 2,none⟩ = some (.string (x k).name):=hcell' 2 (by decide);have e3:wr.cell? ⟨b',off' + k * 9 + 3,none⟩ = some (.int .i64 (x k).length):=hcell' 3 (by decide);have e4:wr.cell? ⟨b',off' + k * 9 + 4,none⟩ = some (.int .i64 (x k).group):=hcell' 4 (by decide);have e5:wr.cell? ⟨b',off' + k * 9 + 5,none⟩ = some (.int .i64 (x k).row):=hcell' 5 (by decide);have e6:wr.cell? ⟨b',off' + k * 9 + 6,none⟩ = some (.slice bao6 (x k).rows.1 bcap6):=hcell' 6 (by decide);have e7:wr.cell? ⟨b',off' + k * 9 + 7,none⟩ = some (.slice bao7 (x k).data.1 bcap7):=hcell' 7 (by decide);have e8:wr.cell? ⟨b',off' + k * 9 + 8,none⟩ = some (.slice bao8 (x k).delta.1 bcap8):=hcell' 8 (by decide);have C1:=eqRec_is _ _ (x k) h1 h2 (wr.drewN 1) hrk hrk' (Nat.le_trans u1 hb.size) (Nat.le_trans u2 hb.size);clear hc hc' hel hel' hcell hcell' hrk hrk';go_wp2
      go_region_with (go_at_call 127;refine C1.mono ?_;rintro ee w2 ⟨rfl,hb2⟩)
      all_goals
        have R':Below w.heap.size w w2:=hb.trans ((below_drewN (Below.refl wr.heap.size wr) 1).trans hb2 |>.mono hb.size);clear hb2;go_wp2
        go_roundw
        case rel => exact ⟨k + 1,by omega,by go_num,R'⟩
        case measure => simp [intOf];omega
    · obtain rfl:k = n:=by omega
      go_wp2;go_ret;exact ⟨rfl,hb⟩
set_option maxHeartbeats 8000000 in
set_option maxRecDepth 20000 in
theorem eqTape_is:EqV layTape 71:=fun c1 c2 d h1 h2 w r1 r2 u1 u2 => by
  obtain ⟨ao1,cap1,rfl,g1⟩:=Tape_rd r1;obtain ⟨bao1,bcap1,rfl,q1⟩:=Tape_rd r2;clear r1 r2;have G1:Hid ((layRec.slice 93).rd w h1 d.recs [.slice ao1 d.recs.1 cap1]):=g1;have E1:Hid ((layRec.slice 93).rd w h2 d.recs [.slice bao1 d.recs.1 bcap1]):=q1;clear g1 q1
  go_enter Tryz.func71,Tryz.ntmps71
  go_wp2_with fail
  have T0:=two_newb w #[.bool d.wiped,.slice ao1 d.recs.1 cap1] #[.bool d.wiped,.slice bao1 d.recs.1 bcap1] 90 90;refine (eqRecS_is _ _ d.recs h1 h2 _ ((layRec.slice 93).rd_below G1.out T0.bel u1) ((layRec.slice 93).rd_below E1.out T0.bel u2) (Nat.le_trans u1 T0.bel.size) (Nat.le_trans u2 T0.bel.size)).mono ?_;rintro e w1 ⟨rfl,b1⟩;have T1:Two w w1 #[.bool d.wiped,.slice ao1 d.recs.1 cap1] #[.bool d.wiped,.slice bao1 d.recs.1 bcap1] 90 90:=T0.call b1;clear T0 b1;have B:Hid (Below w.heap.size w w1):=T1.bel;clear T1;go_wp2;go_ret;exact ⟨rfl,B.out⟩
set_option maxHeartbeats 4000000 in
theorem eqTapeS_is:EqS (layTape.slice 90) 39:=fun v1 v2 d h1 h2 w r1 r2 u1 u2 => by
  obtain ⟨n,x⟩:=d;obtain ⟨ao,cap,hv,hm,hc⟩:=r1
  cases hv
  obtain ⟨ao',cap',hv',hm',hc'⟩:=r2
  cases hv'
  simp only at hm hc hc'
  unfold maxLen at hm;clear hm'
  go_enter Tryz.func39,Tryz.ntmps39
  go_wp2
  go_loopw [5] (fun i wr => ∃ k:Nat,k ≤ n ∧ i = .int .i64 k ∧ Below w.heap.size w wr) (fun i _ => n - (intOf i).toNat)
  case atStart => exact ⟨0,Nat.zero_le _,rfl,Below.refl _ _⟩
  case round =>
    obtain ⟨k,hk,rfl,hb⟩:=hrel
    by_cases hlt:k < n
    · obtain ⟨b,off,rfl,hblt,hel⟩:=hc (by omega)
      obtain ⟨b',off',rfl,hblt',hel'⟩:=hc' (by omega);obtain ⟨ck,hrk,hcell⟩:=elem_rd (t:=0) hel (below_drewN hb 1) u1 hblt hlt;obtain ⟨ck',hrk',hcell'⟩:=elem_rd (t:=0) hel' (below_drewN hb 1) u2 hblt' hlt;obtain ⟨ao1,cap1,rfl,-⟩:=Tape_rd hrk;obtain ⟨bao1,bcap1,rfl,-⟩:=Tape_rd hrk';have c0:wr.cell? ⟨b,off + k * 2,none⟩ = some (.bool (x k).wiped):=hcell 0 (by decide);have c1:wr.cell? ⟨b,off + k * 2 + 1,none⟩ = some (.slice ao1 (x k).recs.1 cap1):=hcell 1 (by decide);have e0:wr.cell? ⟨b',off' + k * 2,none⟩ = some (.bool (x k).wiped):=hcell' 0 (by decide);have e1:wr.cell? ⟨b',off' + k * 2 + 1,none⟩ = some (.slice bao1 (x k).recs.1 bcap1):=hcell' 1 (by decide);have C1:=eqTape_is _ _ (x k) h1 h2 (wr.drewN 1) hrk hrk' (Nat.le_trans u1 hb.size) (Nat.le_trans u2 hb.size);clear hc hc' hel hel' hcell hcell' hrk hrk';go_wp2
      go_region_with (go_at_call 71;refine C1.mono ?_;rintro ee w2 ⟨rfl,hb2⟩)
      all_goals
        have R':Below w.heap.size w w2:=hb.trans ((below_drewN (Below.refl wr.heap.size wr) 1).trans hb2 |>.mono hb.size);clear hb2;go_wp2
        go_roundw
        case rel => exact ⟨k + 1,by omega,by go_num,R'⟩
        case measure => simp [intOf];omega
    · obtain rfl:k = n:=by omega
      go_wp2;go_ret;exact ⟨rfl,hb⟩
end Go.Proofs.YtbjblbbbafiepaaGreat
namespace Go.Proofs.YtbjblbbbafiepaaGreat
open Go.RowKit F256
set_option maxHeartbeats 2000000 in
theorem eqShape_any (s:Nat → Int) (w:World) :
    Calls Tryz.prog 37 #[shapeV s,shapeV s] w fun e w' => e = .returned (.bool true) ∧ Below w.heap.size w w':=by
  unfold shapeV
  go_enter Tryz.func37,Tryz.ntmps37
  go_wp2;go_ret;exact ⟨rfl,((Below.refl _ _).alloc (Nat.le_refl _) _).alloc (by simp) _⟩
end Go.Proofs.YtbjblbbbafiepaaGreat
namespace Go.Proofs.YtbjblbbbafiepaaGreat
open Go.RowKit F256
set_option maxHeartbeats 8000000 in
set_option maxRecDepth 20000 in
theorem eqWorld_is:EqV layWorld 11:=fun c1 c2 d h1 h2 w r1 r2 u1 u2 => by
  obtain ⟨ao1,cap1,ao2,cap2,ao3,cap3,rfl,g1,g2,g3,-⟩:=World_rd r1;obtain ⟨bao1,bcap1,bao2,bcap2,bao3,bcap3,rfl,q1,q2,q3,-⟩:=World_rd r2;clear r1 r2;have G1:Hid (((layDrive.slice 98).slice 95).rd w h1 d.groups [.slice ao1 d.groups.1 cap1]):=g1;have E1:Hid (((layDrive.slice 98).slice 95).rd w h2 d.groups [.slice bao1 d.groups.1 bcap1]):=q1;have G2:Hid (layInts.rd w h1 d.on [.slice ao2 d.on.1 cap2]):=g2;have E2:Hid (layInts.rd w h2 d.on [.slice bao2 d.on.1 bcap2]):=q2;have G3:Hid ((layTape.slice 90).rd w h1 d.tapes [.slice ao3 d.tapes.1 cap3]):=g3;have E3:Hid ((layTape.slice 90).rd w h2 d.tapes [.slice bao3 d.tapes.1 bcap3]):=q3;clear g1 q1 g2 q2 g3 q3
  go_enter Tryz.func11,Tryz.ntmps11
  go_wp2_with fail
  have T0:=two_newb w #[.int .i64 (d.shape 0),.int .i64 (d.shape 1),.int .i64 (d.shape 2),.int .i64 (d.shape 3),.int .i64 (d.shape 4),.int .i64 (d.shape 5),.int .i64 (d.shape 6),.int .i64 (d.shape 7),.int .i64 (d.shape 8),.slice ao1 d.groups.1 cap1,.slice ao2 d.on.1 cap2,.slice ao3 d.tapes.1 cap3,.int .i64 d.writes,.int .i64 d.stop,.bool d.down] #[.int .i64 (d.shape 0),.int .i64 (d.shape 1),.int .i64 (d.shape 2),.int .i64 (d.shape 3),.int .i64 (d.shape 4),.int .i64 (d.shape 5),.int .i64 (d.shape 6),.int .i64 (d.shape 7),.int .i64 (d.shape 8),.slice bao1 d.groups.1 bcap1,.slice bao2 d.on.1 bcap2,.slice bao3 d.tapes.1 bcap3,.int .i64 d.writes,.int .i64 d.stop,.bool d.down] 37 37;refine (eqShape_any d.shape _).mono ?_;rintro e w1 ⟨rfl,b1⟩;have T1:Two w w1 #[.int .i64 (d.shape 0),.int .i64 (d.shape 1),.int .i64 (d.shape 2),.int .i64 (d.shape 3),.int .i64 (d.shape 4),.int .i64 (d.shape 5),.int .i64 (d.shape 6),.int .i64 (d.shape 7),.int .i64 (d.shape 8),.slice ao1 d.groups.1 cap1,.slice ao2 d.on.1 cap2,.slice ao3 d.tapes.1 cap3,.int .i64 d.writes,.int .i64 d.stop,.bool d.down] #[.int .i64 (d.shape 0),.int .i64 (d.shape 1),.int .i64 (d.shape 2),.int .i64 (d.shape 3),.int .i64 (d.shape 4),.int .i64 (d.shape 5),.int .i64 (d.shape 6),.int .i64 (d.shape 7),.int .i64 (d.shape 8),.slice bao1 d.groups.1 bcap1,.slice bao2 d.on.1 bcap2,.slice bao3 d.tapes.1 bcap3,.int .i64 d.writes,.int .i64 d.stop,.bool d.down] 37 37:=T0.call b1;clear T0 b1;have x1_9:w1.cell? ⟨w.heap.size,9,none⟩ = some (.slice ao1 d.groups.1 cap1):=T1.b1.cell 9;have y1_9:w1.cell? ⟨w.heap.size + 1,9,none⟩ = some (.slice bao1 d.groups.1 bcap1):=T1.b2.cell 9
  go_wp2_with fail
  refine (eqDriveSS_is _ _ d.groups h1 h2 _ (((layDrive.slice 98).slice 95).rd_below G1.out T1.bel u1) (((layDrive.slice 98).slice 95).rd_below E1.out T1.bel u2) (Nat.le_trans u1 T1.bel.size) (Nat.le_trans u2 T1.bel.size)).mono ?_;rintro e w2 ⟨rfl,b2⟩;have T2:Two w w2 #[.int .i64 (d.shape 0),.int .i64 (d.shape 1),.int .i64 (d.shape 2),.int .i64 (d.shape 3),.int .i64 (d.shape 4),.int .i64 (d.shape 5),.int .i64 (d.shape 6),.int .i64 (d.shape 7),.int .i64 (d.shape 8),.slice ao1 d.groups.1 cap1,.slice ao2 d.on.1 cap2,.slice ao3 d.tapes.1 cap3,.int .i64 d.writes,.int .i64 d.stop,.bool d.down] #[.int .i64 (d.shape 0),.int .i64 (d.shape 1),.int .i64 (d.shape 2),.int .i64 (d.shape 3),.int .i64 (d.shape 4),.int .i64 (d.shape 5),.int .i64 (d.shape 6),.int .i64 (d.shape 7),.int .i64 (d.shape 8),.slice bao1 d.groups.1 bcap1,.slice bao2 d.on.1 bcap2,.slice bao3 d.tapes.1 bcap3,.int .i64 d.writes,.int .i64 d.stop,.bool d.down] 37 37:=T1.call b2;clear T1 b2;have x2_10:w2.cell? ⟨w.heap.size,10,none⟩ = some (.slice ao2 d.on.1 cap2):=T2.b1.cell 10;have y2_10:w2.cell? ⟨w.heap.size + 1,10,none⟩ = some (.slice bao2 d.on.1 bcap2):=T2.b2.cell 10
  go_wp2_with fail
  refine (eqInts_is _ _ d.on h1 h2 _ (layInts.rd_below G2.out T2.bel u1) (layInts.rd_below E2.out T2.bel u2) (Nat.le_trans u1 T2.bel.size) (Nat.le_trans u2 T2.bel.size)).mono ?_;rintro e w3 ⟨rfl,b3⟩;have T3:Two w w3 #[.int .i64 (d.shape 0),.int .i64 (d.shape 1),.int .i64 (d.shape 2),.int .i64 (d.shape 3),.int .i64 (d.shape 4),.int .i64 (d.shape 5),.int .i64 (d.shape 6),.int .i64 (d.shape 7),.int .i64 (d.shape 8),.slice ao1 d.groups.1 cap1,.slice ao2 d.on.1 cap2,.slice ao3 d.tapes.1 cap3,.int .i64 d.writes,.int .i64 d.stop,.bool d.down] #[.int .i64 (d.shape 0),.int .i64 (d.shape 1),.int .i64 (d.shape 2),.int .i64 (d.shape 3),.int .i64 (d.shape 4),.int .i64 (d.shape 5),.int .i64 (d.shape 6),.int .i64 (d.shape 7),.int .i64 (d.shape 8),.slice bao1 d.groups.1 bcap1,.slice bao2 d.on.1 bcap2,.slice bao3 d.tapes.1 bcap3,.int .i64 d.writes,.int .i64 d.stop,.bool d.down] 37 37:=T2.call b3;clear T2 b3;have x3_11:w3.cell? ⟨w.heap.size,11,none⟩ = some (.slice ao3 d.tapes.1 cap3):=T3.b1.cell 11;have y3_11:w3.cell? ⟨w.heap.size + 1,11,none⟩ = some (.slice bao3 d.tapes.1 bcap3):=T3.b2.cell 11
  go_wp2_with fail
  refine (eqTapeS_is _ _ d.tapes h1 h2 _ ((layTape.slice 90).rd_below G3.out T3.bel u1) ((layTape.slice 90).rd_below E3.out T3.bel u2) (Nat.le_trans u1 T3.bel.size) (Nat.le_trans u2 T3.bel.size)).mono ?_;rintro e w4 ⟨rfl,b4⟩;have T4:Two w w4 #[.int .i64 (d.shape 0),.int .i64 (d.shape 1),.int .i64 (d.shape 2),.int .i64 (d.shape 3),.int .i64 (d.shape 4),.int .i64 (d.shape 5),.int .i64 (d.shape 6),.int .i64 (d.shape 7),.int .i64 (d.shape 8),.slice ao1 d.groups.1 cap1,.slice ao2 d.on.1 cap2,.slice ao3 d.tapes.1 cap3,.int .i64 d.writes,.int .i64 d.stop,.bool d.down] #[.int .i64 (d.shape 0),.int .i64 (d.shape 1),.int .i64 (d.shape 2),.int .i64 (d.shape 3),.int .i64 (d.shape 4),.int .i64 (d.shape 5),.int .i64 (d.shape 6),.int .i64 (d.shape 7),.int .i64 (d.shape 8),.slice bao1 d.groups.1 bcap1,.slice bao2 d.on.1 bcap2,.slice bao3 d.tapes.1 bcap3,.int .i64 d.writes,.int .i64 d.stop,.bool d.down] 37 37:=T3.call b4;clear T3 b4;have x4_12:w4.cell? ⟨w.heap.size,12,none⟩ = some (.int .i64 d.writes):=T4.b1.cell 12;have y4_12:w4.cell? ⟨w.heap.size + 1,12,none⟩ = some (.int .i64 d.writes):=T4.b2.cell 12;have x4_13:w4.cell? ⟨w.heap.size,13,none⟩ = some (.int .i64 d.stop):=T4.b1.cell 13;have y4_13:w4.cell? ⟨w.heap.size + 1,13,none⟩ = some (.int .i64 d.stop):=T4.b2.cell 13;have x4_14:w4.cell? ⟨w.heap.size,14,none⟩ = some (.bool d.down):=T4.b1.cell 14;have y4_14:w4.cell? ⟨w.heap.size + 1,14,none⟩ = some (.bool d.down):=T4.b2.cell 14;have B:Hid (Below w.heap.size w w4):=T4.bel;clear T4;go_wp2;go_ret;exact ⟨rfl,B.out⟩
end Go.Proofs.YtbjblbbbafiepaaGreat
namespace Go.Proofs.YtbjblbbbafiepaaGreat
open Go.RowKit F256
theorem b3_eq (J:Nat):((J:Int) % 3 == 0) = decide (J % 3 = 0):=by
  by_cases h:J % 3 = 0
  · have:(J:Int) % 3 = 0:=by omega
    simp [h,this]
  · have:¬ (J:Int) % 3 = 0:=by omega
    simp [h,this]
end Go.Proofs.YtbjblbbbafiepaaGreat
namespace Go.Proofs.YtbjblbbbafiepaaGreat
open Go.RowKit F256
set_option maxHeartbeats 8000000 in
theorem markBlockS_is:MkS (layBlock.slice 111) (cSl cBlockD) (mkSl cBlockD mkBlockD) 104:=fun v d L j w h nd hj => by
  obtain ⟨n,x⟩:=d
  by_cases h0:n = 0
  · subst h0
    have hown:(layBlock.slice 111).own w (mkSl cBlockD mkBlockD j (0,x)) [v] L:=slice_congr h rfl (fun i hi => absurd hi (Nat.not_lt_zero i));obtain ⟨ao,cap,hv⟩:=sl_formO h;obtain rfl:=one_eq hv;clear h hv
    go_enter Tryz.func104,Tryz.ntmps104
    go_wp2
    go_loopw [1,5] (fun y i wr => y = .int .i64 j ∧ i = .int .i64 0 ∧ wr = w) (fun _ _ _ => 0)
    case atStart => exact ⟨rfl,rfl,rfl⟩
    case round =>
      obtain ⟨rfl,rfl,rfl⟩:=hrel;go_wp2;go_ret;exact ⟨ret_eq (by simp [cSl,sumN]),hown,ChgL.refl _ _⟩
  · obtain ⟨g,cap,ce,Ls,hv,rfl,so⟩:=slice_form h h0
    obtain rfl:=one_eq hv;obtain ⟨_,_,_,hm,_⟩:=(layBlock.slice 111).own_rd (hi:=w.heap.size) h ((layBlock.slice 111).own_lt h)
    simp only at hm
    unfold maxLen at hm;clear h hv
    simp only at so nd
    have hj':j + sumN (fun i => cBlockD (x i)) n ≤ 100000000:=hj;clear hj;have ND:Hid ((g :: catN n Ls).Nodup):=nd;clear nd
    go_enter Tryz.func104,Tryz.ntmps104
    go_wp2
    go_loopw [1,5] (fun y i wr => ∃ k:Nat,k ≤ n ∧ i = .int .i64 k ∧ y = .int .i64 ((j + sumN (fun i => cBlockD (x i)) k:Nat):Int) ∧ ∃ ce,SlO layBlock 111 wr g cap n (mkTo cBlockD mkBlockD j x k) ce Ls ∧ ChgL (g :: catN n Ls) w wr) (fun _ i _ => n - (intOf i).toNat)
    case atStart => exact ⟨0,Nat.zero_le _,rfl,rfl,ce,by rw [mkTo_zero];exact so,ChgL.refl _ _⟩
    case round =>
      clear so;obtain ⟨k,hk,rfl,rfl,ce,so,ch⟩:=hrel
      by_cases hlt:k < n
      · have S0:=so.at_ k
        rw [mkTo_at] at S0;obtain ⟨ao1,cap1,K1,hcs,hL,o1,k0⟩:=Block_own (S0.own hlt);rw [hcs] at S0;have HL:Hid (Ls k = K1):=hL;have hgn:=not_in ND.out hlt;have hnd:=nodup_at ND.out k hlt;rw [hL] at hgn hnd;have hs1:sumN (fun i => cBlockD (x i)) (k + 1) ≤ sumN (fun i => cBlockD (x i)) n:=sumN_mono _ (show k + 1 ≤ n from hlt);rw [sumN_succ] at hs1;obtain ⟨J,hJ⟩:∃ J,J = j + sumN (fun i => cBlockD (x i)) k:=⟨_,rfl⟩
        have hJb:J + cBlockD (x k) ≤ 100000000:=by omega
        have HJ:Hid (J = j + sumN (fun i => cBlockD (x i)) k):=hJ;rw [← hJ];clear hs1 hJ hL hcs so;unfold cBlockD at hJb;have CH:Hid (ChgL (g :: catN n Ls) w wr):=ch;clear ch;have O1:Hid (layBytes.own wr (x k).bytes [.slice ao1 (x k).bytes.1 cap1] K1):=o1;clear o1;have Q0:Hid ((-9223372036854775808 ≤ (x k).stamp ∧ (x k).stamp ≤ 9223372036854775807)):=k0;clear k0;have c0_0:wr.cell? ⟨g,k * 2,none⟩ = some (.int .i64 (x k).stamp):=S0.cell hlt (show 0 < layBlock.sz by decide);have f0_0:=S0.frozen (k * 2);have c0_1:wr.cell? ⟨g,k * 2 + 1,none⟩ = some (.slice ao1 (x k).bytes.1 cap1):=S0.cell hlt (show 1 < layBlock.sz by decide);have f0_1:=S0.frozen (k * 2 + 1)
        go_wp2_with fail
        have S1:SlK layBlock 111 (wr.setCell ⟨g,k * 2,none⟩ (.int .i64 (((J:Nat)):Int))) g cap n (mkTo cBlockD mkBlockD j x k) ce Ls k ⟨(((J:Nat)):Int),(x k).bytes⟩ [.int .i64 (((J:Nat)):Int),.slice ao1 (x k).bytes.1 cap1]:=S0.store ND.out hlt (show 0 < layBlock.sz by decide) (.int .i64 (((J:Nat)):Int)) (by rw [HL.out];exact Block_mk ⟨(((J:Nat)):Int),(x k).bytes⟩ (O1.out) ((show -9223372036854775808 ≤ (((J:Nat)):Int) ∧ (((J:Nat)):Int) ≤ 9223372036854775807 by omega)));refine (markBytes_is _ (x k).bytes K1 (J + 1) _ (own_setg (O1.out) hgn) hnd (by omega)).mono ?_;rintro e v1 ⟨rfl,p1,q1⟩;have OO1_1:Hid (layBytes.own v1 (mkBytes (J + 1) (x k).bytes) [.slice ao1 (x k).bytes.1 cap1] K1):=p1
        have SUB1:∀ b,b ∈ K1 → b ∈ Ls k:=fun b hb => by rw [HL.out];exact hb
        have S2:SlK layBlock 111 v1 g cap n (mkTo cBlockD mkBlockD j x k) ce Ls k ⟨(((J:Nat)):Int),(mkBytes (J + 1) (x k).bytes)⟩ [.int .i64 (((J:Nat)):Int),.slice ao1 (x k).bytes.1 cap1]:=S1.into ND.out hlt (q1.mono (SUB1)) (by rw [HL.out];exact Block_mk ⟨(((J:Nat)):Int),(mkBytes (J + 1) (x k).bytes)⟩ (OO1_1.out) ((show -9223372036854775808 ≤ (((J:Nat)):Int) ∧ (((J:Nat)):Int) ≤ 9223372036854775807 by omega)));have CH1:Hid (ChgL (g :: catN n Ls) w v1):=((CH.out).st g _ _ (List.mem_cons_self ..)).sub q1 (fun b hb => SlO.sub k hlt b ((SUB1) b hb));have FS:SlO layBlock 111 v1 g cap n (upd (mkTo cBlockD mkBlockD j x k) k (mkBlockD J (x k))) (upd ce k [.int .i64 (((J:Nat)):Int),.slice ao1 (x k).bytes.1 cap1]) Ls:=S2;rw [HJ.out,mkTo_next] at FS;have FS':Hid (∃ ce,SlO layBlock 111 v1 g cap n (mkTo cBlockD mkBlockD j x (k + 1)) ce Ls):=⟨_,FS⟩;clear FS p1 q1
        go_wp2_with fail
        go_roundw
        case rel =>
          obtain ⟨ce',FS⟩:=FS'.out
          exact ⟨k + 1,by omega,by go_num,val_eq (by
            have e1:=HJ.out;have e2:sumN (fun i => cBlockD (x i)) (k + 1) = sumN (fun i => cBlockD (x i)) k + cBlockD (x k):=rfl;have e3:cBlockD (x k) = 1 + lenD (x k).bytes:=rfl
            omega),ce',FS,CH1.out⟩
        case measure => simp [intOf];omega
      · obtain rfl:k = n:=by omega
        go_wp2;go_ret;exact ⟨rfl,(so.congr (fun i hi => mkTo_done cBlockD mkBlockD j x k i hi)).own,ch⟩
set_option maxHeartbeats 8000000 in
theorem markDriveS_is:MkS (layDrive.slice 98) (cSl cDriveD) (mkSl cDriveD mkDriveD) 72:=fun v d L j w h nd hj => by
  obtain ⟨n,x⟩:=d
  by_cases h0:n = 0
  · subst h0
    have hown:(layDrive.slice 98).own w (mkSl cDriveD mkDriveD j (0,x)) [v] L:=slice_congr h rfl (fun i hi => absurd hi (Nat.not_lt_zero i));obtain ⟨ao,cap,hv⟩:=sl_formO h;obtain rfl:=one_eq hv;clear h hv
    go_enter Tryz.func72,Tryz.ntmps72
    go_wp2
    go_loopw [1,5] (fun y i wr => y = .int .i64 j ∧ i = .int .i64 0 ∧ wr = w) (fun _ _ _ => 0)
    case atStart => exact ⟨rfl,rfl,rfl⟩
    case round =>
      obtain ⟨rfl,rfl,rfl⟩:=hrel;go_wp2;go_ret;exact ⟨ret_eq (by simp [cSl,sumN]),hown,ChgL.refl _ _⟩
  · obtain ⟨g,cap,ce,Ls,hv,rfl,so⟩:=slice_form h h0
    obtain rfl:=one_eq hv;obtain ⟨_,_,_,hm,_⟩:=(layDrive.slice 98).own_rd (hi:=w.heap.size) h ((layDrive.slice 98).own_lt h)
    simp only at hm
    unfold maxLen at hm;clear h hv
    simp only at so nd
    have hj':j + sumN (fun i => cDriveD (x i)) n ≤ 100000000:=hj;clear hj;have ND:Hid ((g :: catN n Ls).Nodup):=nd;clear nd
    go_enter Tryz.func72,Tryz.ntmps72
    go_wp2
    go_loopw [1,5] (fun y i wr => ∃ k:Nat,k ≤ n ∧ i = .int .i64 k ∧ y = .int .i64 ((j + sumN (fun i => cDriveD (x i)) k:Nat):Int) ∧ ∃ ce,SlO layDrive 98 wr g cap n (mkTo cDriveD mkDriveD j x k) ce Ls ∧ ChgL (g :: catN n Ls) w wr) (fun _ i _ => n - (intOf i).toNat)
    case atStart => exact ⟨0,Nat.zero_le _,rfl,rfl,ce,by rw [mkTo_zero];exact so,ChgL.refl _ _⟩
    case round =>
      clear so;obtain ⟨k,hk,rfl,rfl,ce,so,ch⟩:=hrel
      by_cases hlt:k < n
      · have S0:=so.at_ k
        rw [mkTo_at] at S0;obtain ⟨ao1,cap1,K1,hcs,hL,o1⟩:=Drive_own (S0.own hlt);rw [hcs] at S0;have HL:Hid (Ls k = K1):=hL;have hgn:=not_in ND.out hlt;have hnd:=nodup_at ND.out k hlt;rw [hL] at hgn hnd;have hs1:sumN (fun i => cDriveD (x i)) (k + 1) ≤ sumN (fun i => cDriveD (x i)) n:=sumN_mono _ (show k + 1 ≤ n from hlt);rw [sumN_succ] at hs1;obtain ⟨J,hJ⟩:∃ J,J = j + sumN (fun i => cDriveD (x i)) k:=⟨_,rfl⟩
        have hJb:J + cDriveD (x k) ≤ 100000000:=by omega
        have HJ:Hid (J = j + sumN (fun i => cDriveD (x i)) k):=hJ;rw [← hJ];clear hs1 hJ hL hcs so;unfold cDriveD at hJb;have CH:Hid (ChgL (g :: catN n Ls) w wr):=ch;clear ch;have O1:Hid ((layBlock.slice 111).own wr (x k).blocks [.slice ao1 (x k).blocks.1 cap1] K1):=o1;clear o1;have hb3:((J:Int) % 3 == 0) = decide (J % 3 = 0):=b3_eq J;have c0_0:wr.cell? ⟨g,k * 2,none⟩ = some (.bool (x k).wiped):=S0.cell hlt (show 0 < layDrive.sz by decide);have f0_0:=S0.frozen (k * 2);have c0_1:wr.cell? ⟨g,k * 2 + 1,none⟩ = some (.slice ao1 (x k).blocks.1 cap1):=S0.cell hlt (show 1 < layDrive.sz by decide);have f0_1:=S0.frozen (k * 2 + 1)
        go_wp2_with fail
        have S1:SlK layDrive 98 (wr.setCell ⟨g,k * 2,none⟩ (.bool (decide ((J) % 3 = 0)))) g cap n (mkTo cDriveD mkDriveD j x k) ce Ls k ⟨(decide ((J) % 3 = 0)),(x k).blocks⟩ [.bool (decide ((J) % 3 = 0)),.slice ao1 (x k).blocks.1 cap1]:=S0.store ND.out hlt (show 0 < layDrive.sz by decide) (.bool (decide ((J) % 3 = 0))) (by rw [HL.out];exact Drive_mk ⟨(decide ((J) % 3 = 0)),(x k).blocks⟩ (O1.out));refine (markBlockS_is _ (x k).blocks K1 (J + 1) _ (own_setg (O1.out) hgn) hnd (by omega)).mono ?_;rintro e v1 ⟨rfl,p1,q1⟩;have OO1_1:Hid ((layBlock.slice 111).own v1 ((mkSl cBlockD mkBlockD) (J + 1) (x k).blocks) [.slice ao1 (x k).blocks.1 cap1] K1):=p1
        have SUB1:∀ b,b ∈ K1 → b ∈ Ls k:=fun b hb => by rw [HL.out];exact hb
        have S2:SlK layDrive 98 v1 g cap n (mkTo cDriveD mkDriveD j x k) ce Ls k ⟨(decide ((J) % 3 = 0)),((mkSl cBlockD mkBlockD) (J + 1) (x k).blocks)⟩ [.bool (decide ((J) % 3 = 0)),.slice ao1 (x k).blocks.1 cap1]:=S1.into ND.out hlt (q1.mono (SUB1)) (by rw [HL.out];exact Drive_mk ⟨(decide ((J) % 3 = 0)),((mkSl cBlockD mkBlockD) (J + 1) (x k).blocks)⟩ (OO1_1.out));have CH1:Hid (ChgL (g :: catN n Ls) w v1):=((CH.out).st g _ _ (List.mem_cons_self ..)).sub q1 (fun b hb => SlO.sub k hlt b ((SUB1) b hb));have FS:SlO layDrive 98 v1 g cap n (upd (mkTo cDriveD mkDriveD j x k) k (mkDriveD J (x k))) (upd ce k [.bool (decide ((J) % 3 = 0)),.slice ao1 (x k).blocks.1 cap1]) Ls:=S2;rw [HJ.out,mkTo_next] at FS;have FS':Hid (∃ ce,SlO layDrive 98 v1 g cap n (mkTo cDriveD mkDriveD j x (k + 1)) ce Ls):=⟨_,FS⟩;clear FS p1 q1
        go_wp2_with fail
        go_roundw
        case rel =>
          obtain ⟨ce',FS⟩:=FS'.out
          exact ⟨k + 1,by omega,by go_num,val_eq (by
            have e1:=HJ.out;have e2:sumN (fun i => cDriveD (x i)) (k + 1) = sumN (fun i => cDriveD (x i)) k + cDriveD (x k):=rfl;have e3:cDriveD (x k) = 1 + (cSl cBlockD) (x k).blocks:=rfl
            omega),ce',FS,CH1.out⟩
        case measure => simp [intOf];omega
      · obtain rfl:k = n:=by omega
        go_wp2;go_ret;exact ⟨rfl,(so.congr (fun i hi => mkTo_done cDriveD mkDriveD j x k i hi)).own,ch⟩
set_option maxHeartbeats 4000000 in
theorem markDriveSS_is:MkS ((layDrive.slice 98).slice 95) (cSl (cSl cDriveD)) (mkSl (cSl cDriveD) (mkSl cDriveD mkDriveD)) 40:=fun v d L j w h nd hj => by
  obtain ⟨n,x⟩:=d
  by_cases h0:n = 0
  · subst h0
    have hown:((layDrive.slice 98).slice 95).own w (mkSl (cSl cDriveD) (mkSl cDriveD mkDriveD) j (0,x)) [v] L:=slice_congr h rfl (fun i hi => absurd hi (Nat.not_lt_zero i));obtain ⟨ao,cap,hv⟩:=sl_formO h;obtain rfl:=one_eq hv;clear h hv
    go_enter Tryz.func40,Tryz.ntmps40
    go_wp2
    go_loopw [1,5] (fun y i wr => y = .int .i64 j ∧ i = .int .i64 0 ∧ wr = w) (fun _ _ _ => 0)
    case atStart => exact ⟨rfl,rfl,rfl⟩
    case round =>
      obtain ⟨rfl,rfl,rfl⟩:=hrel;go_wp2;go_ret;exact ⟨ret_eq (by simp [cSl,sumN]),hown,ChgL.refl _ _⟩
  · obtain ⟨g,cap,ce,Ls,hv,rfl,so⟩:=slice_form h h0
    obtain rfl:=one_eq hv;obtain ⟨_,_,_,hm,_⟩:=((layDrive.slice 98).slice 95).own_rd (hi:=w.heap.size) h (((layDrive.slice 98).slice 95).own_lt h)
    simp only at hm
    unfold maxLen at hm;clear h hv
    simp only at so nd
    have hj':j + sumN (fun i => (cSl cDriveD) (x i)) n ≤ 100000000:=hj;clear hj;have ND:Hid ((g :: catN n Ls).Nodup):=nd;clear nd
    go_enter Tryz.func40,Tryz.ntmps40
    go_wp2
    go_loopw [1,5] (fun y i wr => ∃ k:Nat,k ≤ n ∧ i = .int .i64 k ∧ y = .int .i64 ((j + sumN (fun i => (cSl cDriveD) (x i)) k:Nat):Int) ∧ ∃ ce,SlO (layDrive.slice 98) 95 wr g cap n (mkTo (cSl cDriveD) (mkSl cDriveD mkDriveD) j x k) ce Ls ∧ ChgL (g :: catN n Ls) w wr) (fun _ i _ => n - (intOf i).toNat)
    case atStart => exact ⟨0,Nat.zero_le _,rfl,rfl,ce,by rw [mkTo_zero];exact so,ChgL.refl _ _⟩
    case round =>
      clear so;obtain ⟨k,hk,rfl,rfl,ce,so,ch⟩:=hrel
      by_cases hlt:k < n
      · have S0:=so.at_ k
        rw [mkTo_at] at S0;have o1:=S0.own hlt;obtain ⟨ao9,cap9,hcs⟩:=sl_formO o1;rw [hcs] at S0 o1;have hs1:sumN (fun i => (cSl cDriveD) (x i)) (k + 1) ≤ sumN (fun i => (cSl cDriveD) (x i)) n:=sumN_mono _ (show k + 1 ≤ n from hlt);rw [sumN_succ] at hs1;obtain ⟨J,hJ⟩:∃ J,J = j + sumN (fun i => (cSl cDriveD) (x i)) k:=⟨_,rfl⟩
        have hJb:J + (cSl cDriveD) (x k) ≤ 100000000:=by omega
        have HJ:Hid (J = j + sumN (fun i => (cSl cDriveD) (x i)) k):=hJ;rw [← hJ];clear hs1 hJ hcs so;have CH:Hid (ChgL (g :: catN n Ls) w wr):=ch;clear ch
        have c0:wr.cell? ⟨g,k,none⟩ = some (.slice ao9 (x k).1 cap9):=by
          have h:=S0.cell hlt (show 0 < (layDrive.slice 98).sz by decide);rw [show (layDrive.slice 98).sz = 1 from rfl,Nat.mul_one,Nat.add_zero] at h;exact h
        have HO:Hid ((layDrive.slice 98).own wr (x k) [.slice ao9 (x k).1 cap9] (Ls k)):=o1;clear o1
        go_wp2_with fail
        refine (markDriveS_is _ (x k) (Ls k) J _ HO.out (nodup_at ND.out k hlt) (by omega)).mono ?_;rintro e w2 ⟨rfl,p1,q1⟩;have S1:=S0.into ND.out hlt q1 p1;have CH1:Hid (ChgL (g :: catN n Ls) w w2):=CH.out.sub q1 (fun b hb => SlO.sub k hlt b hb);have FS:SlO (layDrive.slice 98) 95 w2 g cap n (upd (mkTo (cSl cDriveD) (mkSl cDriveD mkDriveD) j x k) k ((mkSl cDriveD mkDriveD) J (x k))) (upd ce k [.slice ao9 (x k).1 cap9]) Ls:=S1;rw [HJ.out,mkTo_next] at FS;have FS':Hid (∃ ce,SlO (layDrive.slice 98) 95 w2 g cap n (mkTo (cSl cDriveD) (mkSl cDriveD mkDriveD) j x (k + 1)) ce Ls):=⟨_,FS⟩;clear FS p1 q1 S1 S0
        go_wp2_with fail
        go_roundw
        case rel =>
          obtain ⟨ce',FS⟩:=FS'.out
          exact ⟨k + 1,by omega,by go_num,val_eq (by
            have e1:=HJ.out;have e2:sumN (fun i => (cSl cDriveD) (x i)) (k + 1) = sumN (fun i => (cSl cDriveD) (x i)) k + (cSl cDriveD) (x k):=rfl
            omega),ce',FS,CH1.out⟩
        case measure => simp [intOf];omega
      · obtain rfl:k = n:=by omega
        go_wp2;go_ret;exact ⟨rfl,(so.congr (fun i hi => mkTo_done (cSl cDriveD) (mkSl cDriveD mkDriveD) j x k i hi)).own,ch⟩
end Go.Proofs.YtbjblbbbafiepaaGreat
namespace Go.Proofs.YtbjblbbbafiepaaGreat
open Go.RowKit F256
set_option maxHeartbeats 8000000 in
theorem markRecS_is:MkS (layRec.slice 93) (cSl cRecD) (mkSl cRecD mkRecD) 73:=fun v d L j w h nd hj => by
  obtain ⟨n,x⟩:=d
  by_cases h0:n = 0
  · subst h0
    have hown:(layRec.slice 93).own w (mkSl cRecD mkRecD j (0,x)) [v] L:=slice_congr h rfl (fun i hi => absurd hi (Nat.not_lt_zero i));obtain ⟨ao,cap,hv⟩:=sl_formO h;obtain rfl:=one_eq hv;clear h hv
    go_enter Tryz.func73,Tryz.ntmps73
    go_wp2
    go_loopw [1,5] (fun y i wr => y = .int .i64 j ∧ i = .int .i64 0 ∧ wr = w) (fun _ _ _ => 0)
    case atStart => exact ⟨rfl,rfl,rfl⟩
    case round =>
      obtain ⟨rfl,rfl,rfl⟩:=hrel;go_wp2;go_ret;exact ⟨ret_eq (by simp [cSl,sumN]),hown,ChgL.refl _ _⟩
  · obtain ⟨g,cap,ce,Ls,hv,rfl,so⟩:=slice_form h h0
    obtain rfl:=one_eq hv;obtain ⟨_,_,_,hm,_⟩:=(layRec.slice 93).own_rd (hi:=w.heap.size) h ((layRec.slice 93).own_lt h)
    simp only at hm
    unfold maxLen at hm;clear h hv
    simp only at so nd
    have hj':j + sumN (fun i => cRecD (x i)) n ≤ 100000000:=hj;clear hj;have ND:Hid ((g :: catN n Ls).Nodup):=nd;clear nd
    go_enter Tryz.func73,Tryz.ntmps73
    go_wp2
    go_loopw [1,5] (fun y i wr => ∃ k:Nat,k ≤ n ∧ i = .int .i64 k ∧ y = .int .i64 ((j + sumN (fun i => cRecD (x i)) k:Nat):Int) ∧ ∃ ce,SlO layRec 93 wr g cap n (mkTo cRecD mkRecD j x k) ce Ls ∧ ChgL (g :: catN n Ls) w wr) (fun _ i _ => n - (intOf i).toNat)
    case atStart => exact ⟨0,Nat.zero_le _,rfl,rfl,ce,by rw [mkTo_zero];exact so,ChgL.refl _ _⟩
    case round =>
      clear so;obtain ⟨k,hk,rfl,rfl,ce,so,ch⟩:=hrel
      by_cases hlt:k < n
      · have S0:=so.at_ k
        rw [mkTo_at] at S0;obtain ⟨ao6,cap6,ao7,cap7,ao8,cap8,K6,K7,K8,hcs,hL,o6,o7,o8,k0,k1,k2,k3,k4,k5⟩:=Rec_own (S0.own hlt);rw [hcs] at S0;have HL:Hid (Ls k = K6 ++ (K7 ++ K8)):=hL;have hgn:=not_in ND.out hlt;have hnd:=nodup_at ND.out k hlt;rw [hL] at hgn hnd;have hs1:sumN (fun i => cRecD (x i)) (k + 1) ≤ sumN (fun i => cRecD (x i)) n:=sumN_mono _ (show k + 1 ≤ n from hlt);rw [sumN_succ] at hs1;obtain ⟨J,hJ⟩:∃ J,J = j + sumN (fun i => cRecD (x i)) k:=⟨_,rfl⟩
        have hJb:J + cRecD (x k) ≤ 100000000:=by omega
        have HJ:Hid (J = j + sumN (fun i => cRecD (x i)) k):=hJ;rw [← hJ];clear hs1 hJ hL hcs so;unfold cRecD at hJb;have CH:Hid (ChgL (g :: catN n Ls) w wr):=ch;clear ch;obtain ⟨n1,n2,n3⟩:=List.nodup_append.1 hnd;obtain ⟨n4,n5,n6⟩:=List.nodup_append.1 n2
        simp only [List.mem_append,not_or] at hgn
        obtain ⟨hg0,hg1,hg2⟩:=hgn;clear n2 hnd;have O6:Hid (layInts.own wr (x k).rows [.slice ao6 (x k).rows.1 cap6] K6):=o6;have O7:Hid (layBytes.own wr (x k).data [.slice ao7 (x k).data.1 cap7] K7):=o7;have O8:Hid (layBytes.own wr (x k).delta [.slice ao8 (x k).delta.1 cap8] K8):=o8;clear o6 o7 o8;have Q0:Hid ((-9223372036854775808 ≤ (x k).kind ∧ (x k).kind ≤ 9223372036854775807)):=k0;clear k0;have Q1:Hid ((-9223372036854775808 ≤ (x k).seq ∧ (x k).seq ≤ 9223372036854775807)):=k1;clear k1;have Q2:Hid ((x k).name.size ≤ maxLen):=k2;clear k2;have Q3:Hid ((-9223372036854775808 ≤ (x k).length ∧ (x k).length ≤ 9223372036854775807)):=k3;clear k3;have Q4:Hid ((-9223372036854775808 ≤ (x k).group ∧ (x k).group ≤ 9223372036854775807)):=k4;clear k4;have Q5:Hid ((-9223372036854775808 ≤ (x k).row ∧ (x k).row ≤ 9223372036854775807)):=k5;clear k5;have c0_0:wr.cell? ⟨g,k * 9,none⟩ = some (.int .i64 (x k).kind):=S0.cell hlt (show 0 < layRec.sz by decide);have f0_0:=S0.frozen (k * 9);have c0_1:wr.cell? ⟨g,k * 9 + 1,none⟩ = some (.int .i64 (x k).seq):=S0.cell hlt (show 1 < layRec.sz by decide);have f0_1:=S0.frozen (k * 9 + 1);have c0_2:wr.cell? ⟨g,k * 9 + 2,none⟩ = some (.string (x k).name):=S0.cell hlt (show 2 < layRec.sz by decide);have f0_2:=S0.frozen (k * 9 + 2);have c0_3:wr.cell? ⟨g,k * 9 + 3,none⟩ = some (.int .i64 (x k).length):=S0.cell hlt (show 3 < layRec.sz by decide);have f0_3:=S0.frozen (k * 9 + 3);have c0_4:wr.cell? ⟨g,k * 9 + 4,none⟩ = some (.int .i64 (x k).group):=S0.cell hlt (show 4 < layRec.sz by decide);have f0_4:=S0.frozen (k * 9 + 4);have c0_5:wr.cell? ⟨g,k * 9 + 5,none⟩ = some (.int .i64 (x k).row):=S0.cell hlt (show 5 < layRec.sz by decide);have f0_5:=S0.frozen (k * 9 + 5);have c0_6:wr.cell? ⟨g,k * 9 + 6,none⟩ = some (.slice ao6 (x k).rows.1 cap6):=S0.cell hlt (show 6 < layRec.sz by decide);have f0_6:=S0.frozen (k * 9 + 6);have c0_7:wr.cell? ⟨g,k * 9 + 7,none⟩ = some (.slice ao7 (x k).data.1 cap7):=S0.cell hlt (show 7 < layRec.sz by decide);have f0_7:=S0.frozen (k * 9 + 7);have c0_8:wr.cell? ⟨g,k * 9 + 8,none⟩ = some (.slice ao8 (x k).delta.1 cap8):=S0.cell hlt (show 8 < layRec.sz by decide);have f0_8:=S0.frozen (k * 9 + 8)
        go_wp2_with fail
        have S1:SlK layRec 93 (wr.setCell ⟨g,k * 9,none⟩ (.int .i64 (((J:Nat)):Int))) g cap n (mkTo cRecD mkRecD j x k) ce Ls k ⟨(((J:Nat)):Int),(x k).seq,(x k).name,(x k).length,(x k).group,(x k).row,(x k).rows,(x k).data,(x k).delta⟩ [.int .i64 (((J:Nat)):Int),.int .i64 (x k).seq,.string (x k).name,.int .i64 (x k).length,.int .i64 (x k).group,.int .i64 (x k).row,.slice ao6 (x k).rows.1 cap6,.slice ao7 (x k).data.1 cap7,.slice ao8 (x k).delta.1 cap8]:=S0.store ND.out hlt (show 0 < layRec.sz by decide) (.int .i64 (((J:Nat)):Int)) (by rw [HL.out];exact Rec_mk ⟨(((J:Nat)):Int),(x k).seq,(x k).name,(x k).length,(x k).group,(x k).row,(x k).rows,(x k).data,(x k).delta⟩ (O6.out) (O7.out) (O8.out) ((show -9223372036854775808 ≤ (((J:Nat)):Int) ∧ (((J:Nat)):Int) ≤ 9223372036854775807 by omega)) (Q1.out) (Q2.out) (Q3.out) (Q4.out) (Q5.out));have S2:SlK layRec 93 ((wr.setCell ⟨g,k * 9,none⟩ (.int .i64 (((J:Nat)):Int))).setCell ⟨g,k * 9 + 1,none⟩ (.int .i64 (((J + 1:Nat)):Int))) g cap n (mkTo cRecD mkRecD j x k) ce Ls k ⟨(((J:Nat)):Int),(((J + 1:Nat)):Int),(x k).name,(x k).length,(x k).group,(x k).row,(x k).rows,(x k).data,(x k).delta⟩ [.int .i64 (((J:Nat)):Int),.int .i64 (((J + 1:Nat)):Int),.string (x k).name,.int .i64 (x k).length,.int .i64 (x k).group,.int .i64 (x k).row,.slice ao6 (x k).rows.1 cap6,.slice ao7 (x k).data.1 cap7,.slice ao8 (x k).delta.1 cap8]:=S1.store ND.out hlt (show 1 < layRec.sz by decide) (.int .i64 (((J + 1:Nat)):Int)) (by rw [HL.out];exact Rec_mk ⟨(((J:Nat)):Int),(((J + 1:Nat)):Int),(x k).name,(x k).length,(x k).group,(x k).row,(x k).rows,(x k).data,(x k).delta⟩ (own_setg (O6.out) hg0) (own_setg (O7.out) hg1) (own_setg (O8.out) hg2) ((show -9223372036854775808 ≤ (((J:Nat)):Int) ∧ (((J:Nat)):Int) ≤ 9223372036854775807 by omega)) ((show -9223372036854775808 ≤ (((J + 1:Nat)):Int) ∧ (((J + 1:Nat)):Int) ≤ 9223372036854775807 by omega)) (Q2.out) (Q3.out) (Q4.out) (Q5.out));refine (markText_any (J + 2) (by omega) (by omega) _).mono ?_;rintro e wt ⟨rfl,bt⟩;have OO1_6:Hid (layInts.own wt (x k).rows [.slice ao6 (x k).rows.1 cap6] K6):=layInts.own_kept (own_setg (own_setg (O6.out) hg0) hg0) (fun b hb => bt.block b (layInts.own_lt (own_setg (own_setg (O6.out) hg0) hg0) b hb));have OO1_7:Hid (layBytes.own wt (x k).data [.slice ao7 (x k).data.1 cap7] K7):=layBytes.own_kept (own_setg (own_setg (O7.out) hg1) hg1) (fun b hb => bt.block b (layBytes.own_lt (own_setg (own_setg (O7.out) hg1) hg1) b hb));have OO1_8:Hid (layBytes.own wt (x k).delta [.slice ao8 (x k).delta.1 cap8] K8):=layBytes.own_kept (own_setg (own_setg (O8.out) hg2) hg2) (fun b hb => bt.block b (layBytes.own_lt (own_setg (own_setg (O8.out) hg2) hg2) b hb));have S1t:SlK layRec 93 wt g cap n (mkTo cRecD mkRecD j x k) ce Ls k ⟨(((J:Nat)):Int),(((J + 1:Nat)):Int),(x k).name,(x k).length,(x k).group,(x k).row,(x k).rows,(x k).data,(x k).delta⟩ [.int .i64 (((J:Nat)):Int),.int .i64 (((J + 1:Nat)):Int),.string (x k).name,.int .i64 (x k).length,.int .i64 (x k).group,.int .i64 (x k).row,.slice ao6 (x k).rows.1 cap6,.slice ao7 (x k).data.1 cap7,.slice ao8 (x k).delta.1 cap8]:=SlO.kept S2 (fun b hb => bt.block b (SlO.mem_lt S2 b hb))
        have CH1:Hid (ChgL (g :: catN n Ls) w wt):=(((CH.out).st g _ _ (List.mem_cons_self ..)).st g _ _ (List.mem_cons_self ..)).trans (ChgL.of_below bt);have c1_0:wt.cell? ⟨g,k * 9,none⟩ = some (.int .i64 (((J:Nat)):Int)):=S1t.cell hlt (show 0 < layRec.sz by decide);have f1_0:=S1t.frozen (k * 9);have c1_1:wt.cell? ⟨g,k * 9 + 1,none⟩ = some (.int .i64 (((J + 1:Nat)):Int)):=S1t.cell hlt (show 1 < layRec.sz by decide);have f1_1:=S1t.frozen (k * 9 + 1);have c1_2:wt.cell? ⟨g,k * 9 + 2,none⟩ = some (.string (x k).name):=S1t.cell hlt (show 2 < layRec.sz by decide);have f1_2:=S1t.frozen (k * 9 + 2);have c1_3:wt.cell? ⟨g,k * 9 + 3,none⟩ = some (.int .i64 (x k).length):=S1t.cell hlt (show 3 < layRec.sz by decide);have f1_3:=S1t.frozen (k * 9 + 3);have c1_4:wt.cell? ⟨g,k * 9 + 4,none⟩ = some (.int .i64 (x k).group):=S1t.cell hlt (show 4 < layRec.sz by decide);have f1_4:=S1t.frozen (k * 9 + 4);have c1_5:wt.cell? ⟨g,k * 9 + 5,none⟩ = some (.int .i64 (x k).row):=S1t.cell hlt (show 5 < layRec.sz by decide);have f1_5:=S1t.frozen (k * 9 + 5);have c1_6:wt.cell? ⟨g,k * 9 + 6,none⟩ = some (.slice ao6 (x k).rows.1 cap6):=S1t.cell hlt (show 6 < layRec.sz by decide);have f1_6:=S1t.frozen (k * 9 + 6);have c1_7:wt.cell? ⟨g,k * 9 + 7,none⟩ = some (.slice ao7 (x k).data.1 cap7):=S1t.cell hlt (show 7 < layRec.sz by decide);have f1_7:=S1t.frozen (k * 9 + 7);have c1_8:wt.cell? ⟨g,k * 9 + 8,none⟩ = some (.slice ao8 (x k).delta.1 cap8):=S1t.cell hlt (show 8 < layRec.sz by decide);have f1_8:=S1t.frozen (k * 9 + 8);clear bt
        go_wp2_with fail
        have S3:SlK layRec 93 (wt.setCell ⟨g,k * 9 + 2,none⟩ (.string (markT (J + 2)))) g cap n (mkTo cRecD mkRecD j x k) ce Ls k ⟨(((J:Nat)):Int),(((J + 1:Nat)):Int),(markT (J + 2)),(x k).length,(x k).group,(x k).row,(x k).rows,(x k).data,(x k).delta⟩ [.int .i64 (((J:Nat)):Int),.int .i64 (((J + 1:Nat)):Int),.string (markT (J + 2)),.int .i64 (x k).length,.int .i64 (x k).group,.int .i64 (x k).row,.slice ao6 (x k).rows.1 cap6,.slice ao7 (x k).data.1 cap7,.slice ao8 (x k).delta.1 cap8]:=S1t.store ND.out hlt (show 2 < layRec.sz by decide) (.string (markT (J + 2))) (by rw [HL.out];exact Rec_mk ⟨(((J:Nat)):Int),(((J + 1:Nat)):Int),(markT (J + 2)),(x k).length,(x k).group,(x k).row,(x k).rows,(x k).data,(x k).delta⟩ (OO1_6.out) (OO1_7.out) (OO1_8.out) ((show -9223372036854775808 ≤ (((J:Nat)):Int) ∧ (((J:Nat)):Int) ≤ 9223372036854775807 by omega)) ((show -9223372036854775808 ≤ (((J + 1:Nat)):Int) ∧ (((J + 1:Nat)):Int) ≤ 9223372036854775807 by omega)) (markT_le (J + 2)) (Q3.out) (Q4.out) (Q5.out));have S4:SlK layRec 93 ((wt.setCell ⟨g,k * 9 + 2,none⟩ (.string (markT (J + 2)))).setCell ⟨g,k * 9 + 3,none⟩ (.int .i64 (((J + 3:Nat)):Int))) g cap n (mkTo cRecD mkRecD j x k) ce Ls k ⟨(((J:Nat)):Int),(((J + 1:Nat)):Int),(markT (J + 2)),(((J + 3:Nat)):Int),(x k).group,(x k).row,(x k).rows,(x k).data,(x k).delta⟩ [.int .i64 (((J:Nat)):Int),.int .i64 (((J + 1:Nat)):Int),.string (markT (J + 2)),.int .i64 (((J + 3:Nat)):Int),.int .i64 (x k).group,.int .i64 (x k).row,.slice ao6 (x k).rows.1 cap6,.slice ao7 (x k).data.1 cap7,.slice ao8 (x k).delta.1 cap8]:=S3.store ND.out hlt (show 3 < layRec.sz by decide) (.int .i64 (((J + 3:Nat)):Int)) (by rw [HL.out];exact Rec_mk ⟨(((J:Nat)):Int),(((J + 1:Nat)):Int),(markT (J + 2)),(((J + 3:Nat)):Int),(x k).group,(x k).row,(x k).rows,(x k).data,(x k).delta⟩ (own_setg (OO1_6.out) hg0) (own_setg (OO1_7.out) hg1) (own_setg (OO1_8.out) hg2) ((show -9223372036854775808 ≤ (((J:Nat)):Int) ∧ (((J:Nat)):Int) ≤ 9223372036854775807 by omega)) ((show -9223372036854775808 ≤ (((J + 1:Nat)):Int) ∧ (((J + 1:Nat)):Int) ≤ 9223372036854775807 by omega)) (markT_le (J + 2)) ((show -9223372036854775808 ≤ (((J + 3:Nat)):Int) ∧ (((J + 3:Nat)):Int) ≤ 9223372036854775807 by omega)) (Q4.out) (Q5.out));have S5:SlK layRec 93 (((wt.setCell ⟨g,k * 9 + 2,none⟩ (.string (markT (J + 2)))).setCell ⟨g,k * 9 + 3,none⟩ (.int .i64 (((J + 3:Nat)):Int))).setCell ⟨g,k * 9 + 4,none⟩ (.int .i64 (((J + 4:Nat)):Int))) g cap n (mkTo cRecD mkRecD j x k) ce Ls k ⟨(((J:Nat)):Int),(((J + 1:Nat)):Int),(markT (J + 2)),(((J + 3:Nat)):Int),(((J + 4:Nat)):Int),(x k).row,(x k).rows,(x k).data,(x k).delta⟩ [.int .i64 (((J:Nat)):Int),.int .i64 (((J + 1:Nat)):Int),.string (markT (J + 2)),.int .i64 (((J + 3:Nat)):Int),.int .i64 (((J + 4:Nat)):Int),.int .i64 (x k).row,.slice ao6 (x k).rows.1 cap6,.slice ao7 (x k).data.1 cap7,.slice ao8 (x k).delta.1 cap8]:=S4.store ND.out hlt (show 4 < layRec.sz by decide) (.int .i64 (((J + 4:Nat)):Int)) (by rw [HL.out];exact Rec_mk ⟨(((J:Nat)):Int),(((J + 1:Nat)):Int),(markT (J + 2)),(((J + 3:Nat)):Int),(((J + 4:Nat)):Int),(x k).row,(x k).rows,(x k).data,(x k).delta⟩ (own_setg (own_setg (OO1_6.out) hg0) hg0) (own_setg (own_setg (OO1_7.out) hg1) hg1) (own_setg (own_setg (OO1_8.out) hg2) hg2) ((show -9223372036854775808 ≤ (((J:Nat)):Int) ∧ (((J:Nat)):Int) ≤ 9223372036854775807 by omega)) ((show -9223372036854775808 ≤ (((J + 1:Nat)):Int) ∧ (((J + 1:Nat)):Int) ≤ 9223372036854775807 by omega)) (markT_le (J + 2)) ((show -9223372036854775808 ≤ (((J + 3:Nat)):Int) ∧ (((J + 3:Nat)):Int) ≤ 9223372036854775807 by omega)) ((show -9223372036854775808 ≤ (((J + 4:Nat)):Int) ∧ (((J + 4:Nat)):Int) ≤ 9223372036854775807 by omega)) (Q5.out))
        have S6:SlK layRec 93 ((((wt.setCell ⟨g,k * 9 + 2,none⟩ (.string (markT (J + 2)))).setCell ⟨g,k * 9 + 3,none⟩ (.int .i64 (((J + 3:Nat)):Int))).setCell ⟨g,k * 9 + 4,none⟩ (.int .i64 (((J + 4:Nat)):Int))).setCell ⟨g,k * 9 + 5,none⟩ (.int .i64 (((J + 5:Nat)):Int))) g cap n (mkTo cRecD mkRecD j x k) ce Ls k ⟨(((J:Nat)):Int),(((J + 1:Nat)):Int),(markT (J + 2)),(((J + 3:Nat)):Int),(((J + 4:Nat)):Int),(((J + 5:Nat)):Int),(x k).rows,(x k).data,(x k).delta⟩ [.int .i64 (((J:Nat)):Int),.int .i64 (((J + 1:Nat)):Int),.string (markT (J + 2)),.int .i64 (((J + 3:Nat)):Int),.int .i64 (((J + 4:Nat)):Int),.int .i64 (((J + 5:Nat)):Int),.slice ao6 (x k).rows.1 cap6,.slice ao7 (x k).data.1 cap7,.slice ao8 (x k).delta.1 cap8]:=S5.store ND.out hlt (show 5 < layRec.sz by decide) (.int .i64 (((J + 5:Nat)):Int)) (by rw [HL.out];exact Rec_mk ⟨(((J:Nat)):Int),(((J + 1:Nat)):Int),(markT (J + 2)),(((J + 3:Nat)):Int),(((J + 4:Nat)):Int),(((J + 5:Nat)):Int),(x k).rows,(x k).data,(x k).delta⟩ (own_setg (own_setg (own_setg (OO1_6.out) hg0) hg0) hg0) (own_setg (own_setg (own_setg (OO1_7.out) hg1) hg1) hg1) (own_setg (own_setg (own_setg (OO1_8.out) hg2) hg2) hg2) ((show -9223372036854775808 ≤ (((J:Nat)):Int) ∧ (((J:Nat)):Int) ≤ 9223372036854775807 by omega)) ((show -9223372036854775808 ≤ (((J + 1:Nat)):Int) ∧ (((J + 1:Nat)):Int) ≤ 9223372036854775807 by omega)) (markT_le (J + 2)) ((show -9223372036854775808 ≤ (((J + 3:Nat)):Int) ∧ (((J + 3:Nat)):Int) ≤ 9223372036854775807 by omega)) ((show -9223372036854775808 ≤ (((J + 4:Nat)):Int) ∧ (((J + 4:Nat)):Int) ≤ 9223372036854775807 by omega)) ((show -9223372036854775808 ≤ (((J + 5:Nat)):Int) ∧ (((J + 5:Nat)):Int) ≤ 9223372036854775807 by omega)));refine (markInts_is _ (x k).rows K6 (J + 6) _ (own_setg (own_setg (own_setg (own_setg (OO1_6.out) hg0) hg0) hg0) hg0) n1 (by omega)).mono ?_;rintro e v6 ⟨rfl,p6,q6⟩;have OO2_6:Hid (layInts.own v6 (mkInts (J + 6) (x k).rows) [.slice ao6 (x k).rows.1 cap6] K6):=p6;have OO2_7:Hid (layBytes.own v6 (x k).data [.slice ao7 (x k).data.1 cap7] K7):=layBytes.own_chgL (own_setg (own_setg (own_setg (own_setg (OO1_7.out) hg1) hg1) hg1) hg1) q6 (fun b hb hx => n3 b hx b (List.mem_append_left _ hb) rfl);have OO2_8:Hid (layBytes.own v6 (x k).delta [.slice ao8 (x k).delta.1 cap8] K8):=layBytes.own_chgL (own_setg (own_setg (own_setg (own_setg (OO1_8.out) hg2) hg2) hg2) hg2) q6 (fun b hb hx => n3 b hx b (List.mem_append_right _ hb) rfl)
        have SUB6:∀ b,b ∈ K6 → b ∈ Ls k:=fun b hb => by rw [HL.out];exact List.mem_append_left _ hb
        have S7:SlK layRec 93 v6 g cap n (mkTo cRecD mkRecD j x k) ce Ls k ⟨(((J:Nat)):Int),(((J + 1:Nat)):Int),(markT (J + 2)),(((J + 3:Nat)):Int),(((J + 4:Nat)):Int),(((J + 5:Nat)):Int),(mkInts (J + 6) (x k).rows),(x k).data,(x k).delta⟩ [.int .i64 (((J:Nat)):Int),.int .i64 (((J + 1:Nat)):Int),.string (markT (J + 2)),.int .i64 (((J + 3:Nat)):Int),.int .i64 (((J + 4:Nat)):Int),.int .i64 (((J + 5:Nat)):Int),.slice ao6 (x k).rows.1 cap6,.slice ao7 (x k).data.1 cap7,.slice ao8 (x k).delta.1 cap8]:=S6.into ND.out hlt (q6.mono (SUB6)) (by rw [HL.out];exact Rec_mk ⟨(((J:Nat)):Int),(((J + 1:Nat)):Int),(markT (J + 2)),(((J + 3:Nat)):Int),(((J + 4:Nat)):Int),(((J + 5:Nat)):Int),(mkInts (J + 6) (x k).rows),(x k).data,(x k).delta⟩ (OO2_6.out) (OO2_7.out) (OO2_8.out) ((show -9223372036854775808 ≤ (((J:Nat)):Int) ∧ (((J:Nat)):Int) ≤ 9223372036854775807 by omega)) ((show -9223372036854775808 ≤ (((J + 1:Nat)):Int) ∧ (((J + 1:Nat)):Int) ≤ 9223372036854775807 by omega)) (markT_le (J + 2)) ((show -9223372036854775808 ≤ (((J + 3:Nat)):Int) ∧ (((J + 3:Nat)):Int) ≤ 9223372036854775807 by omega)) ((show -9223372036854775808 ≤ (((J + 4:Nat)):Int) ∧ (((J + 4:Nat)):Int) ≤ 9223372036854775807 by omega)) ((show -9223372036854775808 ≤ (((J + 5:Nat)):Int) ∧ (((J + 5:Nat)):Int) ≤ 9223372036854775807 by omega)));have CH2:Hid (ChgL (g :: catN n Ls) w v6):=(((((CH1.out).st g _ _ (List.mem_cons_self ..)).st g _ _ (List.mem_cons_self ..)).st g _ _ (List.mem_cons_self ..)).st g _ _ (List.mem_cons_self ..)).sub q6 (fun b hb => SlO.sub k hlt b ((SUB6) b hb));have c2_0:v6.cell? ⟨g,k * 9,none⟩ = some (.int .i64 (((J:Nat)):Int)):=S7.cell hlt (show 0 < layRec.sz by decide);have f2_0:=S7.frozen (k * 9);have c2_1:v6.cell? ⟨g,k * 9 + 1,none⟩ = some (.int .i64 (((J + 1:Nat)):Int)):=S7.cell hlt (show 1 < layRec.sz by decide);have f2_1:=S7.frozen (k * 9 + 1);have c2_2:v6.cell? ⟨g,k * 9 + 2,none⟩ = some (.string (markT (J + 2))):=S7.cell hlt (show 2 < layRec.sz by decide);have f2_2:=S7.frozen (k * 9 + 2);have c2_3:v6.cell? ⟨g,k * 9 + 3,none⟩ = some (.int .i64 (((J + 3:Nat)):Int)):=S7.cell hlt (show 3 < layRec.sz by decide);have f2_3:=S7.frozen (k * 9 + 3);have c2_4:v6.cell? ⟨g,k * 9 + 4,none⟩ = some (.int .i64 (((J + 4:Nat)):Int)):=S7.cell hlt (show 4 < layRec.sz by decide);have f2_4:=S7.frozen (k * 9 + 4);have c2_5:v6.cell? ⟨g,k * 9 + 5,none⟩ = some (.int .i64 (((J + 5:Nat)):Int)):=S7.cell hlt (show 5 < layRec.sz by decide);have f2_5:=S7.frozen (k * 9 + 5);have c2_6:v6.cell? ⟨g,k * 9 + 6,none⟩ = some (.slice ao6 (x k).rows.1 cap6):=S7.cell hlt (show 6 < layRec.sz by decide);have f2_6:=S7.frozen (k * 9 + 6);have c2_7:v6.cell? ⟨g,k * 9 + 7,none⟩ = some (.slice ao7 (x k).data.1 cap7):=S7.cell hlt (show 7 < layRec.sz by decide);have f2_7:=S7.frozen (k * 9 + 7);have c2_8:v6.cell? ⟨g,k * 9 + 8,none⟩ = some (.slice ao8 (x k).delta.1 cap8):=S7.cell hlt (show 8 < layRec.sz by decide)
        have f2_8:=S7.frozen (k * 9 + 8);clear p6 q6
        go_wp2_with fail
        refine (markBytes_is _ (x k).data K7 (J + 6 + lenD (x k).rows) _ (OO2_7.out) n4 (by omega)).mono ?_;rintro e v7 ⟨rfl,p7,q7⟩;have OO3_6:Hid (layInts.own v7 (mkInts (J + 6) (x k).rows) [.slice ao6 (x k).rows.1 cap6] K6):=layInts.own_chgL (OO2_6.out) q7 (fun b hb hx => n3 b hb b (List.mem_append_left _ hx) rfl);have OO3_7:Hid (layBytes.own v7 (mkBytes (J + 6 + lenD (x k).rows) (x k).data) [.slice ao7 (x k).data.1 cap7] K7):=p7;have OO3_8:Hid (layBytes.own v7 (x k).delta [.slice ao8 (x k).delta.1 cap8] K8):=layBytes.own_chgL (OO2_8.out) q7 (fun b hb hx => n6 b hx b hb rfl)
        have SUB7:∀ b,b ∈ K7 → b ∈ Ls k:=fun b hb => by rw [HL.out];exact List.mem_append_right _ (List.mem_append_left _ hb)
        have S8:SlK layRec 93 v7 g cap n (mkTo cRecD mkRecD j x k) ce Ls k ⟨(((J:Nat)):Int),(((J + 1:Nat)):Int),(markT (J + 2)),(((J + 3:Nat)):Int),(((J + 4:Nat)):Int),(((J + 5:Nat)):Int),(mkInts (J + 6) (x k).rows),(mkBytes (J + 6 + lenD (x k).rows) (x k).data),(x k).delta⟩ [.int .i64 (((J:Nat)):Int),.int .i64 (((J + 1:Nat)):Int),.string (markT (J + 2)),.int .i64 (((J + 3:Nat)):Int),.int .i64 (((J + 4:Nat)):Int),.int .i64 (((J + 5:Nat)):Int),.slice ao6 (x k).rows.1 cap6,.slice ao7 (x k).data.1 cap7,.slice ao8 (x k).delta.1 cap8]:=S7.into ND.out hlt (q7.mono (SUB7)) (by rw [HL.out];exact Rec_mk ⟨(((J:Nat)):Int),(((J + 1:Nat)):Int),(markT (J + 2)),(((J + 3:Nat)):Int),(((J + 4:Nat)):Int),(((J + 5:Nat)):Int),(mkInts (J + 6) (x k).rows),(mkBytes (J + 6 + lenD (x k).rows) (x k).data),(x k).delta⟩ (OO3_6.out) (OO3_7.out) (OO3_8.out) ((show -9223372036854775808 ≤ (((J:Nat)):Int) ∧ (((J:Nat)):Int) ≤ 9223372036854775807 by omega)) ((show -9223372036854775808 ≤ (((J + 1:Nat)):Int) ∧ (((J + 1:Nat)):Int) ≤ 9223372036854775807 by omega)) (markT_le (J + 2)) ((show -9223372036854775808 ≤ (((J + 3:Nat)):Int) ∧ (((J + 3:Nat)):Int) ≤ 9223372036854775807 by omega)) ((show -9223372036854775808 ≤ (((J + 4:Nat)):Int) ∧ (((J + 4:Nat)):Int) ≤ 9223372036854775807 by omega)) ((show -9223372036854775808 ≤ (((J + 5:Nat)):Int) ∧ (((J + 5:Nat)):Int) ≤ 9223372036854775807 by omega)));have CH3:Hid (ChgL (g :: catN n Ls) w v7):=(CH2.out).sub q7 (fun b hb => SlO.sub k hlt b ((SUB7) b hb));have c3_0:v7.cell? ⟨g,k * 9,none⟩ = some (.int .i64 (((J:Nat)):Int)):=S8.cell hlt (show 0 < layRec.sz by decide);have f3_0:=S8.frozen (k * 9);have c3_1:v7.cell? ⟨g,k * 9 + 1,none⟩ = some (.int .i64 (((J + 1:Nat)):Int)):=S8.cell hlt (show 1 < layRec.sz by decide);have f3_1:=S8.frozen (k * 9 + 1);have c3_2:v7.cell? ⟨g,k * 9 + 2,none⟩ = some (.string (markT (J + 2))):=S8.cell hlt (show 2 < layRec.sz by decide);have f3_2:=S8.frozen (k * 9 + 2);have c3_3:v7.cell? ⟨g,k * 9 + 3,none⟩ = some (.int .i64 (((J + 3:Nat)):Int)):=S8.cell hlt (show 3 < layRec.sz by decide);have f3_3:=S8.frozen (k * 9 + 3);have c3_4:v7.cell? ⟨g,k * 9 + 4,none⟩ = some (.int .i64 (((J + 4:Nat)):Int)):=S8.cell hlt (show 4 < layRec.sz by decide);have f3_4:=S8.frozen (k * 9 + 4);have c3_5:v7.cell? ⟨g,k * 9 + 5,none⟩ = some (.int .i64 (((J + 5:Nat)):Int)):=S8.cell hlt (show 5 < layRec.sz by decide);have f3_5:=S8.frozen (k * 9 + 5);have c3_6:v7.cell? ⟨g,k * 9 + 6,none⟩ = some (.slice ao6 (x k).rows.1 cap6):=S8.cell hlt (show 6 < layRec.sz by decide);have f3_6:=S8.frozen (k * 9 + 6);have c3_7:v7.cell? ⟨g,k * 9 + 7,none⟩ = some (.slice ao7 (x k).data.1 cap7):=S8.cell hlt (show 7 < layRec.sz by decide);have f3_7:=S8.frozen (k * 9 + 7);have c3_8:v7.cell? ⟨g,k * 9 + 8,none⟩ = some (.slice ao8 (x k).delta.1 cap8):=S8.cell hlt (show 8 < layRec.sz by decide)
        have f3_8:=S8.frozen (k * 9 + 8);clear p7 q7
        go_wp2_with fail
        refine (markBytes_is _ (x k).delta K8 (J + 6 + lenD (x k).rows + lenD (x k).data) _ (OO3_8.out) n5 (by omega)).mono ?_;rintro e v8 ⟨rfl,p8,q8⟩;have OO4_6:Hid (layInts.own v8 (mkInts (J + 6) (x k).rows) [.slice ao6 (x k).rows.1 cap6] K6):=layInts.own_chgL (OO3_6.out) q8 (fun b hb hx => n3 b hb b (List.mem_append_right _ hx) rfl);have OO4_7:Hid (layBytes.own v8 (mkBytes (J + 6 + lenD (x k).rows) (x k).data) [.slice ao7 (x k).data.1 cap7] K7):=layBytes.own_chgL (OO3_7.out) q8 (fun b hb hx => n6 b hb b hx rfl);have OO4_8:Hid (layBytes.own v8 (mkBytes (J + 6 + lenD (x k).rows + lenD (x k).data) (x k).delta) [.slice ao8 (x k).delta.1 cap8] K8):=p8
        have SUB8:∀ b,b ∈ K8 → b ∈ Ls k:=fun b hb => by rw [HL.out];exact List.mem_append_right _ (List.mem_append_right _ hb)
        have S9:SlK layRec 93 v8 g cap n (mkTo cRecD mkRecD j x k) ce Ls k ⟨(((J:Nat)):Int),(((J + 1:Nat)):Int),(markT (J + 2)),(((J + 3:Nat)):Int),(((J + 4:Nat)):Int),(((J + 5:Nat)):Int),(mkInts (J + 6) (x k).rows),(mkBytes (J + 6 + lenD (x k).rows) (x k).data),(mkBytes (J + 6 + lenD (x k).rows + lenD (x k).data) (x k).delta)⟩ [.int .i64 (((J:Nat)):Int),.int .i64 (((J + 1:Nat)):Int),.string (markT (J + 2)),.int .i64 (((J + 3:Nat)):Int),.int .i64 (((J + 4:Nat)):Int),.int .i64 (((J + 5:Nat)):Int),.slice ao6 (x k).rows.1 cap6,.slice ao7 (x k).data.1 cap7,.slice ao8 (x k).delta.1 cap8]:=S8.into ND.out hlt (q8.mono (SUB8)) (by rw [HL.out];exact Rec_mk ⟨(((J:Nat)):Int),(((J + 1:Nat)):Int),(markT (J + 2)),(((J + 3:Nat)):Int),(((J + 4:Nat)):Int),(((J + 5:Nat)):Int),(mkInts (J + 6) (x k).rows),(mkBytes (J + 6 + lenD (x k).rows) (x k).data),(mkBytes (J + 6 + lenD (x k).rows + lenD (x k).data) (x k).delta)⟩ (OO4_6.out) (OO4_7.out) (OO4_8.out) ((show -9223372036854775808 ≤ (((J:Nat)):Int) ∧ (((J:Nat)):Int) ≤ 9223372036854775807 by omega)) ((show -9223372036854775808 ≤ (((J + 1:Nat)):Int) ∧ (((J + 1:Nat)):Int) ≤ 9223372036854775807 by omega)) (markT_le (J + 2)) ((show -9223372036854775808 ≤ (((J + 3:Nat)):Int) ∧ (((J + 3:Nat)):Int) ≤ 9223372036854775807 by omega)) ((show -9223372036854775808 ≤ (((J + 4:Nat)):Int) ∧ (((J + 4:Nat)):Int) ≤ 9223372036854775807 by omega)) ((show -9223372036854775808 ≤ (((J + 5:Nat)):Int) ∧ (((J + 5:Nat)):Int) ≤ 9223372036854775807 by omega)));have CH4:Hid (ChgL (g :: catN n Ls) w v8):=(CH3.out).sub q8 (fun b hb => SlO.sub k hlt b ((SUB8) b hb));have FS:SlO layRec 93 v8 g cap n (upd (mkTo cRecD mkRecD j x k) k (mkRecD J (x k))) (upd ce k [.int .i64 (((J:Nat)):Int),.int .i64 (((J + 1:Nat)):Int),.string (markT (J + 2)),.int .i64 (((J + 3:Nat)):Int),.int .i64 (((J + 4:Nat)):Int),.int .i64 (((J + 5:Nat)):Int),.slice ao6 (x k).rows.1 cap6,.slice ao7 (x k).data.1 cap7,.slice ao8 (x k).delta.1 cap8]) Ls:=S9;rw [HJ.out,mkTo_next] at FS;have FS':Hid (∃ ce,SlO layRec 93 v8 g cap n (mkTo cRecD mkRecD j x (k + 1)) ce Ls):=⟨_,FS⟩;clear FS p8 q8
        go_wp2_with fail
        go_roundw
        case rel =>
          obtain ⟨ce',FS⟩:=FS'.out
          exact ⟨k + 1,by omega,by go_num,val_eq (by
            have e1:=HJ.out;have e2:sumN (fun i => cRecD (x i)) (k + 1) = sumN (fun i => cRecD (x i)) k + cRecD (x k):=rfl;have e3:cRecD (x k) = 6 + lenD (x k).rows + lenD (x k).data + lenD (x k).delta:=rfl
            omega),ce',FS,CH4.out⟩
        case measure => simp [intOf];omega
      · obtain rfl:k = n:=by omega
        go_wp2;go_ret;exact ⟨rfl,(so.congr (fun i hi => mkTo_done cRecD mkRecD j x k i hi)).own,ch⟩
set_option maxHeartbeats 8000000 in
theorem markTapeS_is:MkS (layTape.slice 90) (cSl cTapeD) (mkSl cTapeD mkTapeD) 42:=fun v d L j w h nd hj => by
  obtain ⟨n,x⟩:=d
  by_cases h0:n = 0
  · subst h0
    have hown:(layTape.slice 90).own w (mkSl cTapeD mkTapeD j (0,x)) [v] L:=slice_congr h rfl (fun i hi => absurd hi (Nat.not_lt_zero i));obtain ⟨ao,cap,hv⟩:=sl_formO h;obtain rfl:=one_eq hv;clear h hv
    go_enter Tryz.func42,Tryz.ntmps42
    go_wp2
    go_loopw [1,5] (fun y i wr => y = .int .i64 j ∧ i = .int .i64 0 ∧ wr = w) (fun _ _ _ => 0)
    case atStart => exact ⟨rfl,rfl,rfl⟩
    case round =>
      obtain ⟨rfl,rfl,rfl⟩:=hrel;go_wp2;go_ret;exact ⟨ret_eq (by simp [cSl,sumN]),hown,ChgL.refl _ _⟩
  · obtain ⟨g,cap,ce,Ls,hv,rfl,so⟩:=slice_form h h0
    obtain rfl:=one_eq hv;obtain ⟨_,_,_,hm,_⟩:=(layTape.slice 90).own_rd (hi:=w.heap.size) h ((layTape.slice 90).own_lt h)
    simp only at hm
    unfold maxLen at hm;clear h hv
    simp only at so nd
    have hj':j + sumN (fun i => cTapeD (x i)) n ≤ 100000000:=hj;clear hj;have ND:Hid ((g :: catN n Ls).Nodup):=nd;clear nd
    go_enter Tryz.func42,Tryz.ntmps42
    go_wp2
    go_loopw [1,5] (fun y i wr => ∃ k:Nat,k ≤ n ∧ i = .int .i64 k ∧ y = .int .i64 ((j + sumN (fun i => cTapeD (x i)) k:Nat):Int) ∧ ∃ ce,SlO layTape 90 wr g cap n (mkTo cTapeD mkTapeD j x k) ce Ls ∧ ChgL (g :: catN n Ls) w wr) (fun _ i _ => n - (intOf i).toNat)
    case atStart => exact ⟨0,Nat.zero_le _,rfl,rfl,ce,by rw [mkTo_zero];exact so,ChgL.refl _ _⟩
    case round =>
      clear so;obtain ⟨k,hk,rfl,rfl,ce,so,ch⟩:=hrel
      by_cases hlt:k < n
      · have S0:=so.at_ k
        rw [mkTo_at] at S0;obtain ⟨ao1,cap1,K1,hcs,hL,o1⟩:=Tape_own (S0.own hlt);rw [hcs] at S0;have HL:Hid (Ls k = K1):=hL;have hgn:=not_in ND.out hlt;have hnd:=nodup_at ND.out k hlt;rw [hL] at hgn hnd;have hs1:sumN (fun i => cTapeD (x i)) (k + 1) ≤ sumN (fun i => cTapeD (x i)) n:=sumN_mono _ (show k + 1 ≤ n from hlt);rw [sumN_succ] at hs1;obtain ⟨J,hJ⟩:∃ J,J = j + sumN (fun i => cTapeD (x i)) k:=⟨_,rfl⟩
        have hJb:J + cTapeD (x k) ≤ 100000000:=by omega
        have HJ:Hid (J = j + sumN (fun i => cTapeD (x i)) k):=hJ;rw [← hJ];clear hs1 hJ hL hcs so;unfold cTapeD at hJb;have CH:Hid (ChgL (g :: catN n Ls) w wr):=ch;clear ch;have O1:Hid ((layRec.slice 93).own wr (x k).recs [.slice ao1 (x k).recs.1 cap1] K1):=o1;clear o1;have hb3:((J:Int) % 3 == 0) = decide (J % 3 = 0):=b3_eq J;have c0_0:wr.cell? ⟨g,k * 2,none⟩ = some (.bool (x k).wiped):=S0.cell hlt (show 0 < layTape.sz by decide);have f0_0:=S0.frozen (k * 2);have c0_1:wr.cell? ⟨g,k * 2 + 1,none⟩ = some (.slice ao1 (x k).recs.1 cap1):=S0.cell hlt (show 1 < layTape.sz by decide);have f0_1:=S0.frozen (k * 2 + 1)
        go_wp2_with fail
        have S1:SlK layTape 90 (wr.setCell ⟨g,k * 2,none⟩ (.bool (decide ((J) % 3 = 0)))) g cap n (mkTo cTapeD mkTapeD j x k) ce Ls k ⟨(decide ((J) % 3 = 0)),(x k).recs⟩ [.bool (decide ((J) % 3 = 0)),.slice ao1 (x k).recs.1 cap1]:=S0.store ND.out hlt (show 0 < layTape.sz by decide) (.bool (decide ((J) % 3 = 0))) (by rw [HL.out];exact Tape_mk ⟨(decide ((J) % 3 = 0)),(x k).recs⟩ (O1.out));refine (markRecS_is _ (x k).recs K1 (J + 1) _ (own_setg (O1.out) hgn) hnd (by omega)).mono ?_;rintro e v1 ⟨rfl,p1,q1⟩;have OO1_1:Hid ((layRec.slice 93).own v1 ((mkSl cRecD mkRecD) (J + 1) (x k).recs) [.slice ao1 (x k).recs.1 cap1] K1):=p1
        have SUB1:∀ b,b ∈ K1 → b ∈ Ls k:=fun b hb => by rw [HL.out];exact hb
        have S2:SlK layTape 90 v1 g cap n (mkTo cTapeD mkTapeD j x k) ce Ls k ⟨(decide ((J) % 3 = 0)),((mkSl cRecD mkRecD) (J + 1) (x k).recs)⟩ [.bool (decide ((J) % 3 = 0)),.slice ao1 (x k).recs.1 cap1]:=S1.into ND.out hlt (q1.mono (SUB1)) (by rw [HL.out];exact Tape_mk ⟨(decide ((J) % 3 = 0)),((mkSl cRecD mkRecD) (J + 1) (x k).recs)⟩ (OO1_1.out));have CH1:Hid (ChgL (g :: catN n Ls) w v1):=((CH.out).st g _ _ (List.mem_cons_self ..)).sub q1 (fun b hb => SlO.sub k hlt b ((SUB1) b hb));have FS:SlO layTape 90 v1 g cap n (upd (mkTo cTapeD mkTapeD j x k) k (mkTapeD J (x k))) (upd ce k [.bool (decide ((J) % 3 = 0)),.slice ao1 (x k).recs.1 cap1]) Ls:=S2;rw [HJ.out,mkTo_next] at FS;have FS':Hid (∃ ce,SlO layTape 90 v1 g cap n (mkTo cTapeD mkTapeD j x (k + 1)) ce Ls):=⟨_,FS⟩;clear FS p1 q1
        go_wp2_with fail
        go_roundw
        case rel =>
          obtain ⟨ce',FS⟩:=FS'.out
          exact ⟨k + 1,by omega,by go_num,val_eq (by
            have e1:=HJ.out;have e2:sumN (fun i => cTapeD (x i)) (k + 1) = sumN (fun i => cTapeD (x i)) k + cTapeD (x k):=rfl;have e3:cTapeD (x k) = 1 + (cSl cRecD) (x k).recs:=rfl
            omega),ce',FS,CH1.out⟩
        case measure => simp [intOf];omega
      · obtain rfl:k = n:=by omega
        go_wp2;go_ret;exact ⟨rfl,(so.congr (fun i hi => mkTo_done cTapeD mkTapeD j x k i hi)).own,ch⟩
end Go.Proofs.YtbjblbbbafiepaaGreat