/- The specification's counted records: each laid into its place, if it is not there. -/
import Derived.Test.YtfoidpcoiankoaaGreatZPfreeraf
import Derived.Test.YtfoidpcoiankoaaGreatZPfreerae
import Derived.Deep.DeepCutAuto
import Derived.Test.YtfoidpcoiankoaaGreatZPfreeraa
import Derived.Test.YtfoidpcoiankoaaGreatZPfreerab
import Derived.Test.YtfoidpcoiankoaaGreatZPfreerad
import Derived.BigQuiet
import Derived.Deep.QuietTactic
import Derived.StillTailTactics
import Derived.Lib.MinMax
import Derived.Laws.StructEq
import Derived.Test.YtfoidpcoiankoaaGreatZPfreerac
import Derived.Deep.Cut
set_option linter.unusedVariables false
set_option linter.unusedSimpArgs false
namespace Go.Proofs.YtfoidpcoiankoaaGreat
open Go.RowKit F256
theorem recT_at (tp:Nat → TapeD) {T i:Nat} (hT:T < 2) (hi:i < (tp T).recs.1):recT tp 2 (lenT tp T + i) = (tp T).recs.2 i:=by
  have:T = 0 ∨ T = 1:=by omega
  rcases this with rfl | rfl
  · have h1:recT tp 2 (lenT tp 0 + i) = recT tp 1 (lenT tp 0 + i):=cat2_lt _ _ (by show lenT tp 0 + i < lenT tp 0 + (tp 0).recs.1;omega)
    rw [h1];exact cat2_ge _ _ _ _
  · exact cat2_ge _ _ _ _
theorem wrapPred {k:Nat} (h:k + 1 < 1000000000):IntKind.i64.wrap (((k + 1:Nat):Int) - 1) = (k:Int):=by rw [IntKind.wrap_i64];omega
set_option maxHeartbeats 8000000 in
set_option maxRecDepth 100000 in
theorem l6Counted_any (d:WorldD) (cs:List Value) (hi B:Nat) (w:World) (h:layWorld.rd w hi d cs) (hhi:hi ≤ w.heap.size) (hBX:Box w B cs.toArray 37) (h2:d.tapes.1 = 2) (hn0:(d.tapes.2 0).recs.1 ≤ 400000) (hn1:(d.tapes.2 1).recs.1 ≤ 400000) :
    Calls Tryz.prog 22 #[.pointer (some ⟨B,0,none⟩)] w (fun e w' => ∃ v' l ce lo,e = .returned v' ∧ Cnt (recT d.tapes.2 2) (lenT d.tapes.2 2) l ∧ w.heap.size ≤ lo ∧ View layRec 66 w' lo hi v' l.length (fun i => recT d.tapes.2 2 (l.getD i 0)) ce ∧ Below w.heap.size w w'):=by
  obtain ⟨ao1,cap1,ao2,cap2,ao3,cap3,rfl,g1,g2,g3,k0,k4,k5⟩:=World_rd h;obtain ⟨ao3',cap3',e,hmm,hc⟩:=g3
  simp only [List.cons.injEq,Value.slice.injEq,true_and,and_true] at e
  obtain ⟨rfl,rfl⟩:=e;obtain ⟨tb,toff,rfl,hbh,hel⟩:=hc (by rw [h2];simp);rw [h2] at hel;have HEL:Hid (∀ i,i < 2 → ∃ ce,layTape.rd w hi (d.tapes.2 i) ce ∧ ∀ j,j < layTape.sz → w.cell? ⟨tb,toff + (i * layTape.sz + j),none⟩ = ce[j]?):=hel;have hBlt:=hBX.lt
  have HBX:Hid (w.cell? ⟨B,11,none⟩ = some (.slice (some ⟨tb,toff,none⟩) 2 cap3)):=by have:=hBX.cell 11;rw [h2] at this;exact this
  obtain ⟨tp,htp⟩:∃ t,t = d.tapes.2:=⟨_,rfl⟩;rw [← htp] at HEL hn0 hn1 ⊢;clear h hc hmm g1 g2 k0 k4 k5 hel h2 hBX htp;obtain ⟨x0,hx0⟩:∃ x,x = recT tp 2:=⟨_,rfl⟩;have HX0:Hid (x0 = recT tp 2):=hx0;rw [← hx0];clear hx0;have bL:Below w.heap.size w (w.alloc (.cells #[] 66)):=(Below.refl _ _).alloc (Nat.le_refl _) _;have V0:=View.lit0 (E:=layRec) (t:=66) (fun i => x0 (([]:List Nat).getD i 0)) (fun _ => []) w hi;have HL:Hid (lenT tp 0 = 0 ∧ lenT tp 1 = (tp 0).recs.1 ∧ lenT tp 2 = (tp 0).recs.1 + (tp 1).recs.1):=⟨rfl,by simp [lenT],by simp [lenT]⟩
  go_enter Tryz.func22,Tryz.ntmps22
  go_wp2
  go_loopw [3,4] (fun vo vt wr => ∃ (T lo:Nat) (l:List Nat) (co:Nat → List Value),T ≤ 2 ∧ vt = .int .i64 T ∧ w.heap.size ≤ lo ∧ lo ≤ wr.heap.size ∧ Cnt x0 (lenT tp T) l ∧ l.length ≤ lenT tp T ∧ View layRec 66 wr lo hi vo l.length (fun i => x0 (l.getD i 0)) co ∧ Below w.heap.size w wr) (fun _ i _ => 2 - (intOf i).toNat)
  case atStart => exact ⟨0,w.heap.size,[],fun _ => [],by omega,rfl,Nat.le_refl _,bL.size,Cnt.nil x0,Nat.zero_le _,V0,bL⟩
  case round =>
    obtain ⟨T,lo,l,co,hT,rfl,hlo,hlow,hCt,hLl,V,bw⟩:=hrel;have HCt:Hid (Cnt x0 (lenT tp T) l):=hCt;have HV:Hid (View layRec 66 wr lo hi u3 l.length (fun i => x0 (l.getD i 0)) co):=V;have HBW:Hid (Below w.heap.size w wr):=bw;clear bL V0 hCt
    by_cases hlt:T < 2
    · obtain ⟨m,hm⟩:∃ m,m = (tp T).recs.1:=⟨_,rfl⟩
      have HM:Hid (m = (tp T).recs.1):=hm
      have hmb:m ≤ 400000 ∧ lenT tp T ≤ 400000:=by
        have:T = 0 ∨ T = 1:=by omega
        have h3:=HL.out
        rcases this with rfl | rfl <;> omega
      have HLS:Hid (lenT tp (T + 1) = lenT tp T + m):=by rw [hm];exact rfl
      have HW0:Hid (∀ w',Below w.heap.size w w' → ∃ rb cap1,w'.cell? ⟨tb,toff + T * 2 + 1,none⟩ = some (.slice rb m cap1) ∧ (layRec.slice 66).rd w' hi (m,(tp T).recs.2) [.slice rb m cap1]):=fun w' hb => by
        obtain ⟨ct,hy,hcell⟩:=elem_rd (t:=87) HEL.out hb hhi hbh hlt;obtain ⟨aoT,capT,rfl,hrs⟩:=Tape_rd hy;exact ⟨aoT,capT,by have:=hcell 1 (by decide);rw [hm];exact this,by rw [hm];exact hrs⟩
      obtain ⟨L0,hL0⟩:∃ n,n = lenT tp T:=⟨_,rfl⟩;have HL0:Hid (L0 = lenT tp T):=hL0;rw [← hL0] at HCt hLl HLS hmb
      have t1:(T:Int) < 2:=by omega
      have t0:(0:Int) ≤ (T:Int):=by omega
      clear hm bw V hL0 HEL;go_wp2
      go_loopw [3,5] (fun vo vi wr => ∃ (i lo:Nat) (l:List Nat) (co:Nat → List Value),i ≤ m ∧ vi = .int .i64 i ∧ w.heap.size ≤ lo ∧ lo ≤ wr.heap.size ∧ Cnt x0 (L0 + i) l ∧ l.length ≤ L0 + i ∧ View layRec 66 wr lo hi vo l.length (fun i => x0 (l.getD i 0)) co ∧ Below w.heap.size w wr) (fun _ i _ => m - (intOf i).toNat)
      case atStart => exact ⟨0,lo,l,co,Nat.zero_le _,rfl,hlo,hlow,HCt.out,hLl,HV.out,HBW.out⟩
      case round =>
        clear HCt HV HBW hLl hlow hlo co lo l;obtain ⟨i,lo,l,co,hi',rfl,hlo,hlow,hCt,hLl,V,bw⟩:=hrel;obtain ⟨wi,rfl⟩:∃ y,y = wr:=⟨_,rfl⟩;obtain ⟨n,hn⟩:∃ n,n = l.length:=⟨_,rfl⟩;have HN:Hid (n = l.length):=hn;rw [← hn] at V hLl;have HCt:Hid (Cnt x0 (L0 + i) l):=hCt;obtain ⟨ao,cap,hvo⟩:=V.form;subst hvo;have HV:Hid (View layRec 66 wi lo hi (.slice ao n cap) n (fun i => x0 (l.getD i 0)) co):=V;have HBW:Hid (Below w.heap.size w wi):=bw;have zr:w.heap.size ≤ wi.heap.size:=bw.size;have xB:wi.cell? ⟨B,11,none⟩ = some (.slice (some ⟨tb,toff,none⟩) 2 cap3):=(bw.cell (p:=⟨B,11,none⟩) hBlt).trans HBX.out;obtain ⟨rb,capT,xT,hrs⟩:=HW0.out wi bw;clear hCt hn V bw
        by_cases hlt2:i < m
        · obtain ⟨cy,hS,-⟩:=src_of hrs
          obtain ⟨b,off,hrb,hcell⟩:=hS.1 (by omega);subst hrb;have rdR:=hS.2 i hlt2;have hcR:(cy i).length = 9:=layRec.rd_len rdR
          have rgR:wi.rangeAt b (off + i * 9) (cy i):=fun j v hv => by
            have hj:j < 9:=by rw [← hcR];exact (List.getElem?_eq_some_iff.1 hv).1
            have:=hcell i hlt2 j hj;rw [show off + (i * layRec.sz + j) = off + i * 9 + j from (Nat.add_assoc _ _ _).symm] at this;exact this.trans hv
          obtain ⟨cR,hcRe⟩:∃ c,c = cy i:=⟨_,rfl⟩;rw [← hcRe] at rgR hcR rdR
          have hxr:(tp T).recs.2 i = x0 (L0 + i):=by rw [HX0.out,HL0.out];exact (recT_at tp hlt (by rw [← HM.out];exact hlt2)).symm
          rw [hxr] at rdR;obtain ⟨M,hM⟩:∃ M,M = L0 + i:=⟨_,rfl⟩;have HMM:Hid (M = L0 + i):=hM;rw [← hM] at rdR HCt;have oneR:∀ v,v ∈ cR → v.oneCell' = true:=rdOne_rec _ _ _ _ rdR
          have i1:(0:Int) ≤ (i:Int):=by omega
          have i2:(i:Int) < (m:Int):=by omega
          have bA:Below wi.heap.size wi (wi.alloc (.cells cR.toArray 66)):=(Below.refl _ _).alloc (Nat.le_refl _) _;have XA:Box (wi.alloc (.cells cR.toArray 66)) wi.heap.size cR.toArray 66:=box_new _ _ _;have rdW:layRec.rd (wi.alloc (.cells cR.toArray 66)) hi (x0 M) cR:=layRec.rd_below rdR bA (by omega);clear hrs hS hcell hcRe hxr rdR hM
          go_upto_region 9 with (first | (refine wpList_load_mid rfl 66 (.tmp 35) rfl b (off + i * 9) (by simp [Act.eval]) cR _ rgR Tryz.underlying66 rfl (info_Rec9 hcR) ?_) | (refine wp_allocStore 66 6 (.tmp 36) cR _ 9 rfl rfl rfl rfl rfl rfl rfl rfl info_RecZ rfl hcR oneR ?_))
          obtain ⟨W,hW⟩:∃ x,x = wi.alloc (.cells cR.toArray 66):=⟨_,rfl⟩;rw [← hW] at bA XA rdW ⊢;clear hW rgR xB xT;have VW:=HV.out.below bA (by omega);have zW':wi.heap.size < W.heap.size:=XA.lt;have CH:=l6Holds_any (.slice ao n cap) n (fun i => x0 (l.getD i 0)) (x0 M) cR W.heap.size W (VW.rd (by omega)) (layRec.rd_mono rdW (by omega)) (Nat.le_refl _) (by omega);have HXW:Hid (Box W wi.heap.size cR.toArray 66):=XA;have HVW:Hid (View layRec 66 W lo hi (.slice ao n cap) n (fun i => x0 (l.getD i 0)) co):=VW;have HRW:Hid (layRec.rd W hi (x0 M) cR):=rdW;have HBW2:Hid (Below w.heap.size w W):=HBW.out.trans (bA.mono zr);clear VW XA rdW bA HV HBW
          go_wp2_with (refine wp_loadBox 66 (.tmp 6) rfl rfl (wi.heap.size) rfl (cs:=cR) HXW.out Tryz.underlying66 size_Rec hcR ?_)
          refine CH.mono ?_;rintro ee w5 ⟨t,rfl,ht,b5⟩;have z5:W.heap.size ≤ w5.heap.size:=b5.size;have HV5:Hid (View layRec 66 w5 lo hi (.slice ao n cap) n (fun i => x0 (l.getD i 0)) co):=HVW.out.below b5 (by omega);have HX5:Hid (Box w5 wi.heap.size cR.toArray 66):=HXW.out.below b5 zW';have HR5:Hid (layRec.rd w5 hi (x0 M) cR):=layRec.rd_below HRW.out b5 (by omega);have HB5:Hid (Below w.heap.size w w5):=HBW2.out.trans (b5.mono (by omega))
          have HT:Hid (t = true ↔ ¬ Fst x0 M):=by
            show t = true ↔ ¬ Fst x0 M
            rw [ht,← HCt.out.has,HN.out];have:=(mem_drop_getD (l:=l) (al:=0) (P:=fun o => SameR (x0 o) (x0 M))).symm
            simpa using this
          clear ht b5 CH HVW HXW HRW HBW2
          cases t with
          | true =>
            go_wp2
            go_roundw
            case rel => exact ⟨i + 1,lo,l,co,by omega,by go_num,hlo,by omega,by rw [← Nat.add_assoc,← HMM.out];exact HCt.out.skip (HT.out.1 (by simp)),by rw [← HN.out];omega,by rw [← HN.out];exact HV5.out,HB5.out⟩
            case measure => simp [intOf];omega
          | false =>
            have HF:Hid (Fst x0 M):=Classical.byContradiction fun h => absurd (HT.out.2 h) (by simp);clear HT;go_wp2
            go_loopw [7] (fun va wx => ∃ at_:Nat,at_ ≤ n ∧ va = .int .i64 at_ ∧ (∀ k,at_ ≤ k → k < n → numC (x0 M) (x0 (l.getD k 0)) < 0) ∧ Below w5.heap.size w5 wx) (fun va _ => (intOf va).toNat)
            case atStart => exact ⟨n,Nat.le_refl _,by go_num,fun k h1 h2 => by omega,Below.refl _ _⟩
            case round =>
              obtain ⟨at_,hat,rfl,hbeh,bx⟩:=hrel;obtain ⟨wx,rfl⟩:∃ y,y = wr:=⟨_,rfl⟩;have HBE:Hid (∀ k,at_ ≤ k → k < n → numC (x0 M) (x0 (l.getD k 0)) < 0):=hbeh;have zx:w5.heap.size ≤ wx.heap.size:=bx.size;have HVx:Hid (View layRec 66 wx lo hi (.slice ao n cap) n (fun i => x0 (l.getD i 0)) co):=HV5.out.below bx (by omega);have HXx:Hid (Box wx wi.heap.size cR.toArray 66):=HX5.out.below bx (by omega);have HRx:Hid (layRec.rd wx hi (x0 M) cR):=layRec.rd_below HR5.out bx (by omega);have HBx:Hid (Below w.heap.size w wx):=HB5.out.trans (bx.mono (by omega));have HB5x:Hid (Below w5.heap.size w5 wx):=bx;have bD:Below wx.heap.size wx wx.drew:=⟨rfl,rfl,rfl,Nat.le_refl _,fun _ _ => rfl⟩;clear hbeh bx
              by_cases hat0:at_ = 0
              · have d1:decide (0 < at_) = false:=decide_eq_false (by omega)
                have d2:decide ((0:Int) < (at_:Int)) = false:=decide_eq_false (by omega);have HS:Hid (at_ = 0 ∨ ¬ numC (x0 M) (x0 (l.getD (at_ - 1) 0)) < 0):=.inl hat0;clear hat0
                go_upto_region 11 with fail
                refine wp_region_M 9 (fun w' => True) mixedO trivial (fun hHeld => ?_);refine wpAnyM_pure (i:=0) (oi:=_) (v:=?_) rfl (by kernel_rfl) (fun _ _ _ h => h) (Or.inl ⟨by kernel_rfl,?_⟩) (by assumption) ?_
                rotate_left
                · intro w' hSw;go_simp;try with_reducible rfl
                try simp only [Act.put,SL]
                refine wpAnyM_pure (i:=1) (oi:=_) (v:=?_) rfl (by kernel_rfl) (fun _ _ _ h => h) (Or.inl ⟨by kernel_rfl,?_⟩) (by assumption) ?_
                rotate_left
                · intro w' hSw;go_simp;try with_reducible rfl
                try simp only [Act.put,SL]
                try rw [d1]
                refine wpAnyM_pure (i:=2) (oi:=_) (v:=?_) rfl (by kernel_rfl) (fun _ _ _ h => h) (Or.inl ⟨by kernel_rfl,?_⟩) (by assumption) ?_
                rotate_left
                · intro w' hSw;go_simp;try with_reducible rfl
                try simp only [Act.put,SL]
                refine wpAnyM_pure (i:=3) (oi:=_) (v:=undef) rfl (by kernel_rfl) (fun _ _ _ h => h) (Or.inr ⟨by kernel_rfl,rfl⟩) (by assumption) ?_
                try simp only [Act.put,SL]
                refine wpAnyM_pure (i:=4) (oi:=_) (v:=undef) rfl (by kernel_rfl) (fun _ _ _ h => h) (Or.inr ⟨by kernel_rfl,rfl⟩) (by assumption) ?_
                try simp only [Act.put,SL]
                refine wpAnyM_pure (i:=5) (oi:=_) (v:=undef) rfl (by kernel_rfl) (fun _ _ _ h => h) (Or.inr ⟨by kernel_rfl,rfl⟩) (by assumption) ?_
                try simp only [Act.put,SL]
                refine wpAnyM_pure (i:=6) (oi:=_) (v:=undef) rfl (by kernel_rfl) (fun _ _ _ h => h) (Or.inr ⟨by kernel_rfl,rfl⟩) (by assumption) ?_
                try simp only [Act.put,SL]
                refine wpAnyM_pure (i:=7) (oi:=_) (v:=undef) rfl (by kernel_rfl) (fun _ _ _ h => h) (Or.inr ⟨by kernel_rfl,rfl⟩) (by assumption) ?_
                try simp only [Act.put,SL]
                refine wpAnyM_pure (i:=8) (oi:=_) (v:=undef) rfl (by kernel_rfl) (fun _ _ _ h => h) (Or.inr ⟨by kernel_rfl,rfl⟩) (by assumption) ?_
                try simp only [Act.put,SL]
                refine wpAnyM_one (i:=9) (o:=_) rfl (by kernel_rfl) (by kernel_rfl) (fun KC hKC => ?_);refine if_no (by kernel_rfl) (hKC _ _ ?_);clear hKC KC
                try simp only [Act.put,SL]
                refine wpAnyM_pureL (i:=10) (oi:=_) (v:=?_) rfl (by kernel_rfl) (fun _ _ _ h => h) (Or.inl ⟨by kernel_rfl,?_⟩) ?_
                rotate_left
                · intro w' hSw;go_simp;try with_reducible rfl
                try simp only [Act.put,SL]
                refine wpAnyM_done (by kernel_rfl) ?_ _;obtain ⟨w9,hw9⟩:∃ x,x = wx.drew:=⟨_,rfl⟩;rw [← hw9] at bD ⊢;have b9:Below wx.heap.size wx w9:=bD;clear bD hw9 hHeld d1 d2;have z9:wx.heap.size ≤ w9.heap.size:=b9.size;have V9:=(HVx.out.below b9 (by omega)).drew;have b9':Below wx.heap.size wx w9.drew:=b9.trans (show Below wx.heap.size w9 w9.drew from ⟨rfl,rfl,rfl,Nat.le_refl _,fun _ _ => rfl⟩);have X9:Box w9.drew wi.heap.size cR.toArray 66:=HXx.out.below b9' (by omega);have R9:layRec.rd w9.drew hi (x0 M) cR:=layRec.rd_below HRx.out b9' (by omega);have B9:Below w.heap.size w w9.drew:=HBx.out.trans (b9'.mono (by omega))
                have rg9:w9.drew.rangeAt wi.heap.size 0 cR:=fun j v hv => by
                  have:=(X9.cell j).trans (by simpa using hv);rw [Nat.zero_add];exact this
                obtain ⟨D,hD⟩:∃ D,D = w9.drew:=⟨_,rfl⟩;have HD:Hid (D = w9.drew):=hD;rw [← hD] at V9 X9 R9 B9 rg9
                have zD:w9.heap.size = D.heap.size:=by rw [hD];rfl
                clear hD b9 b9';obtain ⟨aU,cU,hUr,sU,hUz⟩:=V9.upto_ (show hi ≤ D.heap.size by omega) (al:=at_) hat;obtain ⟨aF,cF,hFr,sF,rF,hFz⟩:=V9.from_ (show hi ≤ D.heap.size by omega) (al:=at_) hat
                have hAU:∀ b off,aU = some ⟨b,off,none⟩ → b < D.heap.size:=fun b off e => by
                  rcases V9.form2 with ⟨e3,e4⟩ | ⟨g,cp,e3,e4,hg⟩
                  · have hz:at_ = 0:=by omega
                    have:=hUr D;rw [e3,hz,run_upto0 D] at this
                    simp only [Result.ok.injEq,Value.slice.injEq,and_true] at this
                    rw [← this.1] at e
                    cases e
                  · have:=hUr D
                    rw [e3,run_upto9 g n cp at_ hat e4 D] at this
                    simp only [Result.ok.injEq,Value.slice.injEq,and_true] at this
                    rw [← this.1] at e
                    cases e
                    exact hg
                have hAF:∀ b off,aF = some ⟨b,off,none⟩ → b < D.heap.size:=fun b off e => by
                  rcases V9.form2 with ⟨e3,e4⟩ | ⟨g,cp,e3,e4,hg⟩
                  · have hz:at_ = 0:=by omega
                    have:=hFr D;rw [e3,hz,run_from0 D] at this
                    simp only [Result.ok.injEq,Value.slice.injEq,and_true] at this
                    rw [← this.1] at e
                    cases e
                  · have:=hFr D
                    rw [e3,run_from9 g n cp at_ hat D] at this
                    simp only [Result.ok.injEq,Value.slice.injEq,and_true] at this
                    rw [← this.1] at e
                    split at e <;> cases e <;> exact hg
                have hiD:hi ≤ D.heap.size:=by omega
                have hpD:wi.heap.size < D.heap.size:=X9.lt
                have hatL:at_ ≤ l.length:=by rw [← HN.out];exact hat
                have HCN:Hid (Cnt x0 (M + 1) (l.take at_ ++ M :: l.drop at_)):=HCt.out.ins HF.out at_ hatL (fun k h1 h2 => HBE.out k h1 (by rw [HN.out];exact h2)) HS.out;have HRd:Hid (layRec.rd D hi (x0 M) cR):=R9;have HBD:Hid (Below w.heap.size w D):=B9;have HUS:Hid (Src layRec D hi aU at_ (fun i => x0 (l.getD i 0)) co):=sU;have HFS:Hid (Src layRec D hi aF (n - at_) (fun j => x0 (l.getD (at_ + j) 0)) (fun j => co (at_ + j))):=sF;clear V9 X9 R9 B9 sU sF rF
                go_upto_region 13 with fail
                refine wp_region_M 7 (fun w' => w'.rangeAt wi.heap.size 0 cR) mixedO (by rw [← HD.out];exact rg9) (fun hHeld => ?_);rw [← HD.out] at hHeld ⊢;refine wpAnyM_pure (i:=1) (oi:=_) (v:=?_) rfl (by kernel_rfl) (fun _ _ _ h => h) (Or.inl ⟨by kernel_rfl,?_⟩) (by assumption) ?_
                rotate_left
                · intro w' hSw;go_simp;try with_reducible rfl
                try simp only [Act.put,SL]
                refine wpAnyM_pure (i:=2) (oi:=_) (v:=?_) rfl (by kernel_rfl) (fun _ _ _ h => h) (Or.inl ⟨by kernel_rfl,?_⟩) (by assumption) ?_
                rotate_left
                · intro w' hSw;go_simp;try with_reducible rfl
                try simp only [Act.put,SL]
                refine wpAnyM_pure (i:=3) (oi:=_) (v:=?_) rfl (by kernel_rfl) (fun _ _ _ h => h) (Or.inl ⟨by kernel_rfl,?_⟩) (by assumption) ?_
                rotate_left
                · intro w' hSw
                  try rw [show (Instr.slice 54 (.slice ao n cap) none (some (.int .i64 (at_:Int))) none).run Tryz.prog w' = _ from hUr w']
                  have hSl':=hUr w';go_simp
                  try with_reducible rfl
                try simp only [Act.put,SL]
                refine wpAnyM_take (i:=5) (oi:=_) (v:=.agg cR.toArray) 16 rfl (by kernel_rfl) (fun _ _ _ h => h) (yieldsIf_load_mid (by kernel_rfl) 66 (.tmp 6) rfl wi.heap.size (0) (by simp [Act.eval,Act.put]) cR _ (fun w h => h) Tryz.underlying66 rfl (info_Rec9 hcR)) (by assumption) ?_
                try simp only [Act.put,SL]
                refine wpAnyM_pure (i:=8) (oi:=_) (v:=?_) rfl (by kernel_rfl) (fun _ _ _ h => h) (Or.inl ⟨by kernel_rfl,?_⟩) (by assumption) ?_
                rotate_left
                · intro w' hSw;go_simp;try with_reducible rfl
                try simp only [Act.put,SL]
                refine wpAnyM_pure (i:=9) (oi:=_) (v:=?_) rfl (by kernel_rfl) (fun _ _ _ h => h) (Or.inl ⟨by kernel_rfl,?_⟩) (by assumption) ?_
                rotate_left
                · intro w' hSw;go_simp;try with_reducible rfl
                try simp only [Act.put,SL]
                refine wpAnyM_pure (i:=10) (oi:=_) (v:=?_) rfl (by kernel_rfl) (fun _ _ _ h => h) (Or.inl ⟨by kernel_rfl,?_⟩) (by assumption) ?_
                rotate_left
                · intro w' hSw
                  try rw [show (Instr.slice 54 (.slice ao n cap) (some (.int .i64 (at_:Int))) none none).run Tryz.prog w' = _ from hFr w']
                  have hSl':=hFr w';go_simp
                  try with_reducible rfl
                try simp only [Act.put,SL]
                refine wpAnyM_twoS (i:=0) (j:=6) (o:=_) (o':=_) rfl rfl (by kernel_rfl) (fun KC hKC => ?_) (fun KC hKC => ?_)
                · refine step_build0 rfl rfl ?_
                  have bA:Below D.heap.size D (D.alloc (.cells #[] 66)):=(Below.refl _ _).alloc (Nat.le_refl _) _;refine hKC _ _ (range_below rg9 bA hpD) ?_;clear hKC KC
                  try simp only [Act.put,SL]
                  have VL:=View.lit0 (E:=layRec) (t:=66) (fun i => x0 (l.getD i 0)) co D hi;have zA1:D.heap.size < (D.alloc (.cells #[] 66)).heap.size:=(box_new D #[] 66).lt;obtain ⟨D1,hD1⟩:∃ x,x = D.alloc (.cells #[] 66):=⟨_,rfl⟩;rw [← hD1] at bA VL zA1 ⊢;clear hD1;refine wpAnyM_twoS (i:=4) (j:=6) (o:=_) (o':=_) rfl rfl (by kernel_rfl) (fun KC hKC => ?_) (fun KC hKC => ?_)
                  · skip
                    obtain ⟨v4,w4,cv4,runv4,V4,bw4⟩:=ins_up (lo:=lo) HUS.out hUz hAU bA hiD (by omega) VL;refine step_run2 rfl (.tmp 55) (.tmp 58) rfl (by simp [Act.eval,Act.put]) (by simp [Act.eval,Act.put]) runv4 ?_;have b4D:=bA.trans bw4;refine hKC _ _ (range_below rg9 b4D hpD) ?_;clear hKC KC
                    try simp only [Act.put,SL]
                    refine wpAnyM_oneS (i:=6) (o:=_) rfl (by kernel_rfl) (fun KC hKC => ?_);refine step_build1R rfl (.tmp 60) rfl HRd.out (by simp [Act.eval,Act.put]) ?_;have b6:Below w4.heap.size w4 (w4.alloc (.cells cR.toArray 66)):=(Below.refl _ _).alloc (Nat.le_refl _) _;have b6D:=b4D.trans (b6.mono b4D.size);refine hKC _ _ (range_below rg9 b6D hpD) ?_;clear hKC KC
                    try simp only [Act.put,SL]
                    have V6:=V4.below b6 (by have:=b4D.size;omega);have X6:Box (w4.alloc (.cells cR.toArray 66)) w4.heap.size cR.toArray 66:=box_new _ _ _;obtain ⟨v7,w7,cv7,runv7,V7,bw7⟩:=ins_one b6D hiD (by omega) V6 X6 (layRec.rd_below HRd.out b6D hiD);refine wpAnyM_one (i:=7) (o:=_) rfl (by kernel_rfl) (by kernel_rfl) (fun KC hKC => ?_);refine step_run2 rfl (.tmp 59) (.tmp 61) rfl (by simp [Act.eval,Act.put]) (by simp [Act.eval,Act.put]) runv7 ?_;refine hKC _ _ ?_;clear hKC KC
                    try simp only [Act.put,SL]
                    have b7D:=b6D.trans bw7;obtain ⟨v8,w8,cv8,runv8,V8,bw8⟩:=ins_rest HFS.out hFz hAF b7D hiD (by omega) V7;refine wpAnyM_one (i:=11) (o:=_) rfl (by kernel_rfl) (by kernel_rfl) (fun KC hKC => ?_);refine step_run2 rfl (.tmp 62) (.tmp 65) rfl (by simp [Act.eval,Act.put]) (by simp [Act.eval,Act.put]) runv8 ?_;refine hKC _ _ ?_;clear hKC KC
                    try simp only [Act.put,SL]
                    refine wpAnyM_pureL (i:=12) (oi:=_) (v:=?_) rfl (by kernel_rfl) (fun _ _ _ h => h) (Or.inl ⟨by kernel_rfl,?_⟩) ?_
                    rotate_left
                    · intro w' hSw;go_simp;try with_reducible rfl
                    try simp only [Act.put,SL]
                    refine wpAnyM_done (by kernel_rfl) ?_ _
                    have HV8:Hid (View layRec 66 w8 D.heap.size hi v8 (l.take at_ ++ M :: l.drop at_).length (fun i => x0 ((l.take at_ ++ M :: l.drop at_).getD i 0)) cv8):=by
                      show View _ _ _ _ _ _ _ _ _
                      rw [ins_len l M at_ hatL,← HN.out];exact V8.congr (fun i _ => ins_getD x0 l M at_ hatL i)
                    have HB8:Hid (Below w.heap.size w w8):=HBD.out.trans ((b7D.trans bw8).mono (by omega));have z8:D.heap.size ≤ w8.heap.size:=(b7D.trans bw8).size
                    have HLn:Hid ((l.take at_ ++ M :: l.drop at_).length ≤ L0 + (i + 1)):=by
                      show (l.take at_ ++ M :: l.drop at_).length ≤ L0 + (i + 1)
                      rw [ins_len l M at_ hatL,← HN.out];omega
                    clear V8 V7 bw7 bw8 b7D hHeld runv7 runv8 hUr hFr hUz hFz hAU hAF rg9 HUS HFS HRd HBD;go_wp2
                    go_roundw
                    case rel => exact ⟨i + 1,D.heap.size,l.take at_ ++ M :: l.drop at_,cv8,by omega,by go_num,by omega,z8,by rw [← Nat.add_assoc,← HMM.out];exact HCN.out,HLn.out,HV8.out,HB8.out⟩
                    case measure => simp [intOf];omega
                  · refine step_build1R rfl (.tmp 60) rfl HRd.out (by simp [Act.eval,Act.put]) ?_
                    have b6:Below D1.heap.size D1 (D1.alloc (.cells cR.toArray 66)):=(Below.refl _ _).alloc (Nat.le_refl _) _;have b6D:=bA.trans (b6.mono bA.size);refine hKC _ _ (range_below rg9 b6D hpD) ?_;clear hKC KC
                    try simp only [Act.put,SL]
                    have VL6:=VL.below b6 (by have:=bA.size;omega);have X6:Box (D1.alloc (.cells cR.toArray 66)) D1.heap.size cR.toArray 66:=box_new _ _ _;have z6:D1.heap.size < (D1.alloc (.cells cR.toArray 66)).heap.size:=X6.lt;have zA:=bA.size;obtain ⟨D2,hD2⟩:∃ x,x = D1.alloc (.cells cR.toArray 66):=⟨_,rfl⟩;rw [← hD2] at b6 b6D VL6 X6 z6 ⊢;clear hD2;have XK:=X6;obtain ⟨v4,w4,cv4,runv4,⟨V4,X4⟩,bw4⟩:=ins_up4 HUS.out hUz hAU b6D hiD (by omega) VL6 X6 (fun h => by simp [Value.ownBlock] at h;omega);refine wpAnyM_oneS (i:=4) (o:=_) rfl (by kernel_rfl) (fun KC hKC => ?_);refine step_run2 rfl (.tmp 55) (.tmp 58) rfl (by simp [Act.eval,Act.put]) (by simp [Act.eval,Act.put]) runv4 ?_;have b4D:=b6D.trans bw4;refine hKC _ _ (range_below rg9 b4D hpD) ?_;clear hKC KC
                    try simp only [Act.put,SL]
                    obtain ⟨v7,w7,cv7,runv7,V7,bw7⟩:=ins_one b4D hiD (by omega) V4 X4 (layRec.rd_below HRd.out b4D hiD);refine wpAnyM_one (i:=7) (o:=_) rfl (by kernel_rfl) (by kernel_rfl) (fun KC hKC => ?_);refine step_run2 rfl (.tmp 59) (.tmp 61) rfl (by simp [Act.eval,Act.put]) (by simp [Act.eval,Act.put]) runv7 ?_;refine hKC _ _ ?_;clear hKC KC
                    try simp only [Act.put,SL]
                    have b7D:=b4D.trans bw7;obtain ⟨v8,w8,cv8,runv8,V8,bw8⟩:=ins_rest HFS.out hFz hAF b7D hiD (by omega) V7;refine wpAnyM_one (i:=11) (o:=_) rfl (by kernel_rfl) (by kernel_rfl) (fun KC hKC => ?_);refine step_run2 rfl (.tmp 62) (.tmp 65) rfl (by simp [Act.eval,Act.put]) (by simp [Act.eval,Act.put]) runv8 ?_;refine hKC _ _ ?_;clear hKC KC
                    try simp only [Act.put,SL]
                    refine wpAnyM_pureL (i:=12) (oi:=_) (v:=?_) rfl (by kernel_rfl) (fun _ _ _ h => h) (Or.inl ⟨by kernel_rfl,?_⟩) ?_
                    rotate_left
                    · intro w' hSw;go_simp;try with_reducible rfl
                    try simp only [Act.put,SL]
                    refine wpAnyM_done (by kernel_rfl) ?_ _
                    have HV8:Hid (View layRec 66 w8 D.heap.size hi v8 (l.take at_ ++ M :: l.drop at_).length (fun i => x0 ((l.take at_ ++ M :: l.drop at_).getD i 0)) cv8):=by
                      show View _ _ _ _ _ _ _ _ _
                      rw [ins_len l M at_ hatL,← HN.out];exact V8.congr (fun i _ => ins_getD x0 l M at_ hatL i)
                    have HB8:Hid (Below w.heap.size w w8):=HBD.out.trans ((b7D.trans bw8).mono (by omega));have z8:D.heap.size ≤ w8.heap.size:=(b7D.trans bw8).size
                    have HLn:Hid ((l.take at_ ++ M :: l.drop at_).length ≤ L0 + (i + 1)):=by
                      show (l.take at_ ++ M :: l.drop at_).length ≤ L0 + (i + 1)
                      rw [ins_len l M at_ hatL,← HN.out];omega
                    clear V8 V7 bw7 bw8 b7D hHeld runv7 runv8 hUr hFr hUz hFz hAU hAF rg9 HUS HFS HRd HBD;go_wp2
                    go_roundw
                    case rel => exact ⟨i + 1,D.heap.size,l.take at_ ++ M :: l.drop at_,cv8,by omega,by go_num,by omega,z8,by rw [← Nat.add_assoc,← HMM.out];exact HCN.out,HLn.out,HV8.out,HB8.out⟩
                    case measure => simp [intOf];omega
                · refine step_build1R rfl (.tmp 60) rfl HRd.out (by simp [Act.eval,Act.put]) ?_
                  have bA:Below D.heap.size D (D.alloc (.cells cR.toArray 66)):=(Below.refl _ _).alloc (Nat.le_refl _) _;refine hKC _ _ (range_below rg9 bA hpD) ?_;clear hKC KC
                  try simp only [Act.put,SL]
                  have XA:Box (D.alloc (.cells cR.toArray 66)) D.heap.size cR.toArray 66:=box_new _ _ _;have zA:D.heap.size < (D.alloc (.cells cR.toArray 66)).heap.size:=XA.lt;obtain ⟨D1,hD1⟩:∃ x,x = D.alloc (.cells cR.toArray 66):=⟨_,rfl⟩;rw [← hD1] at bA XA zA ⊢;clear hD1;refine wpAnyM_oneS (i:=0) (o:=_) rfl (by kernel_rfl) (fun KC hKC => ?_);refine step_build0 rfl rfl ?_;have b6:Below D1.heap.size D1 (D1.alloc (.cells #[] 66)):=(Below.refl _ _).alloc (Nat.le_refl _) _;have b6D:=bA.trans (b6.mono bA.size);refine hKC _ _ (range_below rg9 b6D hpD) ?_;clear hKC KC
                  try simp only [Act.put,SL]
                  have VL:=(View.lit0 (E:=layRec) (t:=66) (fun i => x0 (l.getD i 0)) co D1 hi).weakL (lo':=D.heap.size) (by omega);have X6:=XA.below b6 zA;obtain ⟨D2,hD2⟩:∃ x,x = D1.alloc (.cells #[] 66):=⟨_,rfl⟩;rw [← hD2] at b6 b6D VL X6 ⊢;clear hD2;obtain ⟨v4,w4,cv4,runv4,⟨V4,X4⟩,bw4⟩:=ins_up4 HUS.out hUz hAU b6D hiD (by omega) VL X6 (fun h => by simp [Value.ownBlock] at h;omega);refine wpAnyM_oneS (i:=4) (o:=_) rfl (by kernel_rfl) (fun KC hKC => ?_);refine step_run2 rfl (.tmp 55) (.tmp 58) rfl (by simp [Act.eval,Act.put]) (by simp [Act.eval,Act.put]) runv4 ?_;have b4D:=b6D.trans bw4;refine hKC _ _ (range_below rg9 b4D hpD) ?_;clear hKC KC
                  try simp only [Act.put,SL]
                  obtain ⟨v7,w7,cv7,runv7,V7,bw7⟩:=ins_one b4D hiD (by omega) V4 X4 (layRec.rd_below HRd.out b4D hiD);refine wpAnyM_one (i:=7) (o:=_) rfl (by kernel_rfl) (by kernel_rfl) (fun KC hKC => ?_);refine step_run2 rfl (.tmp 59) (.tmp 61) rfl (by simp [Act.eval,Act.put]) (by simp [Act.eval,Act.put]) runv7 ?_;refine hKC _ _ ?_;clear hKC KC
                  try simp only [Act.put,SL]
                  have b7D:=b4D.trans bw7;obtain ⟨v8,w8,cv8,runv8,V8,bw8⟩:=ins_rest HFS.out hFz hAF b7D hiD (by omega) V7;refine wpAnyM_one (i:=11) (o:=_) rfl (by kernel_rfl) (by kernel_rfl) (fun KC hKC => ?_);refine step_run2 rfl (.tmp 62) (.tmp 65) rfl (by simp [Act.eval,Act.put]) (by simp [Act.eval,Act.put]) runv8 ?_;refine hKC _ _ ?_;clear hKC KC
                  try simp only [Act.put,SL]
                  refine wpAnyM_pureL (i:=12) (oi:=_) (v:=?_) rfl (by kernel_rfl) (fun _ _ _ h => h) (Or.inl ⟨by kernel_rfl,?_⟩) ?_
                  rotate_left
                  · intro w' hSw;go_simp;try with_reducible rfl
                  try simp only [Act.put,SL]
                  refine wpAnyM_done (by kernel_rfl) ?_ _
                  have HV8:Hid (View layRec 66 w8 D.heap.size hi v8 (l.take at_ ++ M :: l.drop at_).length (fun i => x0 ((l.take at_ ++ M :: l.drop at_).getD i 0)) cv8):=by
                    show View _ _ _ _ _ _ _ _ _
                    rw [ins_len l M at_ hatL,← HN.out];exact V8.congr (fun i _ => ins_getD x0 l M at_ hatL i)
                  have HB8:Hid (Below w.heap.size w w8):=HBD.out.trans ((b7D.trans bw8).mono (by omega));have z8:D.heap.size ≤ w8.heap.size:=(b7D.trans bw8).size
                  have HLn:Hid ((l.take at_ ++ M :: l.drop at_).length ≤ L0 + (i + 1)):=by
                    show (l.take at_ ++ M :: l.drop at_).length ≤ L0 + (i + 1)
                    rw [ins_len l M at_ hatL,← HN.out];omega
                  clear V8 V7 bw7 bw8 b7D hHeld runv7 runv8 hUr hFr hUz hFz hAU hAF rg9 HUS HFS HRd HBD;go_wp2
                  go_roundw
                  case rel => exact ⟨i + 1,D.heap.size,l.take at_ ++ M :: l.drop at_,cv8,by omega,by go_num,by omega,z8,by rw [← Nat.add_assoc,← HMM.out];exact HCN.out,HLn.out,HV8.out,HB8.out⟩
                  case measure => simp [intOf];omega
              · obtain ⟨A,hA⟩:∃ A,at_ = A + 1:=⟨at_ - 1,by omega⟩
                subst hA
                have hAn:A < n:=by omega
                have VD:=HVx.out.drew;obtain ⟨gO,cO',hgO⟩:=VD.form0 (by omega)
                have rgO:wx.drew.rangeAt gO (A * 9) (co A):=by rw [hgO] at VD;exact VD.range hAn
                obtain ⟨rfl,rfl⟩:ao = some ⟨gO,0,none⟩ ∧ cap = cO':=by simpa using hgO
                have hcO:(co A).length = 9:=VD.lens A hAn;have CC0:=l6Ahead_any (x0 M) (x0 (l.getD A 0)) cR (co A) hi hi wx.drew (layRec.rd_below HRx.out bD (by omega)) (VD.each A hAn);obtain ⟨cO,hcOe⟩:∃ c,c = co A:=⟨_,rfl⟩;rw [← hcOe] at rgO hcO CC0;obtain ⟨t,ht⟩:∃ t,t = decide (numC (x0 M) (x0 (l.getD A 0)) < 0):=⟨_,rfl⟩;rw [← ht] at CC0;have HT:Hid (t = decide (numC (x0 M) (x0 (l.getD A 0)) < 0)):=ht
                have CC:Calls Tryz.prog 51 (#[.agg cR.toArray,.agg cO.toArray] ++ #[]) wx.drew fun e w' => e = .returned (.bool t) ∧ Below wx.drew.heap.size wx.drew w':=by rw [Array.append_empty];exact CC0
                have rgB:wx.drew.rangeAt wi.heap.size 0 cR:=fun j v hv => by
                  have:=(HXx.out.cell j).trans (by simpa using hv);rw [Nat.zero_add];exact this
                have d1:decide (0 < A + 1) = true:=decide_eq_true (by omega);have d2:decide ((0:Int) < ((A + 1:Nat):Int)) = true:=decide_eq_true (by omega);have wP:IntKind.i64.wrap (((A + 1:Nat):Int) - 1) = (A:Int):=wrapPred (by omega)
                have wP':IntKind.i64.wrap ((A:Int) + 1 - 1) = (A:Int):=by rw [IntKind.wrap_i64];omega
                have wA:IntKind.i64.wrap (A:Int) = (A:Int):=by rw [IntKind.wrap_i64];omega
                have i3:(0:Int) ≤ (A:Int):=by omega
                have i4:(A:Int) < (n:Int):=by omega
                clear CC0 ht hcOe VD hgO
                go_upto_region 11 with fail
                refine wp_region_M 9 (fun w' => w'.rangeAt gO (A * 9) cO ∧ w'.rangeAt wi.heap.size 0 cR) mixedO ⟨rgO,rgB⟩ (fun hHeld => ?_);refine wpAnyM_pure (i:=0) (oi:=_) (v:=?_) rfl (by kernel_rfl) (fun _ _ _ h => h) (Or.inl ⟨by kernel_rfl,?_⟩) (by assumption) ?_
                rotate_left
                · intro w' hSw;go_simp;try with_reducible rfl
                try simp only [Act.put,SL]
                refine wpAnyM_pure (i:=1) (oi:=_) (v:=?_) rfl (by kernel_rfl) (fun _ _ _ h => h) (Or.inl ⟨by kernel_rfl,?_⟩) (by assumption) ?_
                rotate_left
                · intro w' hSw;go_simp;try with_reducible rfl
                try simp only [Act.put,SL]
                try rw [d1]
                refine wpAnyM_pure (i:=2) (oi:=_) (v:=?_) rfl (by kernel_rfl) (fun _ _ _ h => h) (Or.inl ⟨by kernel_rfl,?_⟩) (by assumption) ?_
                rotate_left
                · intro w' hSw;go_simp;try with_reducible rfl
                try simp only [Act.put,SL]
                refine wpAnyM_take (i:=3) (oi:=_) (v:=.agg cR.toArray) 16 rfl (by kernel_rfl) (fun _ _ _ h => h) (yieldsIf_load_mid (by kernel_rfl) 66 (.tmp 6) rfl wi.heap.size (0) (by simp [Act.eval,Act.put]) cR _ (fun w h => h.2) Tryz.underlying66 rfl (info_Rec9 hcR)) (by assumption) ?_
                try simp only [Act.put,SL]
                refine wpAnyM_pure (i:=4) (oi:=_) (v:=?_) rfl (by kernel_rfl) (fun _ _ _ h => h) (Or.inl ⟨by kernel_rfl,?_⟩) (by assumption) ?_
                rotate_left
                · intro w' hSw;go_simp;try with_reducible rfl
                try simp only [Act.put,SL]
                refine wpAnyM_pure (i:=5) (oi:=_) (v:=?_) rfl (by kernel_rfl) (fun _ _ _ h => h) (Or.inl ⟨by kernel_rfl,?_⟩) (by assumption) ?_
                rotate_left
                · intro w' hSw;go_simp;try with_reducible rfl
                try simp only [Act.put,SL]
                refine wpAnyM_pure (i:=6) (oi:=_) (v:=?_) rfl (by kernel_rfl) (fun _ _ _ h => h) (Or.inl ⟨by kernel_rfl,?_⟩) (by assumption) ?_
                rotate_left
                · intro w' hSw;go_simp;try with_reducible rfl
                try simp only [Act.put,SL]
                refine wpAnyM_pure (i:=7) (oi:=_) (v:=?_) rfl (by kernel_rfl) (fun _ _ _ h => h) (Or.inl ⟨by kernel_rfl,?_⟩) (by assumption) ?_
                rotate_left
                · intro w' hSw;go_simp;try with_reducible rfl
                try simp only [Act.put,SL]
                refine wpAnyM_take (i:=8) (oi:=_) (v:=.agg cO.toArray) 16 rfl (by kernel_rfl) (fun _ _ _ h => h) (yieldsIf_load_mid (by kernel_rfl) 66 (.tmp 49) rfl gO (A * 9) (by simp [Act.eval,Act.put]) cO _ (fun w h => h.1) Tryz.underlying66 rfl (info_Rec9 hcO)) (by assumption) ?_
                try simp only [Act.put,SL]
                refine wpAnyM_one (i:=9) (o:=_) rfl (by kernel_rfl) (by kernel_rfl) (fun KC hKC => ?_);refine step_callv (by kernel_rfl) (.func 51) 51 #[] _ _ rfl (by simp [Act.eval,Act.put]) #[.agg cR.toArray,.agg cO.toArray] (by simp [Act.eval,Act.put]) Tryz.func51 (by kernel_rfl) (by kernel_rfl) CC ?_;rintro ee w9 ⟨rfl,b9d⟩;refine ⟨_,rfl,?_⟩;refine hKC _ _ ?_;clear hKC KC
                try simp only [Act.put,SL]
                refine wpAnyM_pureL (i:=10) (oi:=_) (v:=?_) rfl (by kernel_rfl) (fun _ _ _ h => h) (Or.inl ⟨by kernel_rfl,?_⟩) ?_
                rotate_left
                · intro w' hSw;go_simp;try with_reducible rfl
                try simp only [Act.put,SL]
                refine wpAnyM_done (by kernel_rfl) ?_ _;have b9:Below wx.heap.size wx w9:=bD.trans b9d;clear bD hHeld d1 d2 CC rgO rgB hcO b9d
                cases t with
                | true =>
                  go_wp2
                  go_roundw
                  case rel => exact ⟨A,by omega,by go_num,fun k h1 h2 => by
                                by_cases c:k = A
                                · rw [c];simpa using HT.out
                                · exact HBE.out k (by omega) h2,HB5x.out.trans (b9.mono zx)⟩
                  case measure => simp [intOf]
                | false =>
                  have HS:Hid (A + 1 = 0 ∨ ¬ numC (x0 M) (x0 (l.getD (A + 1 - 1) 0)) < 0):=.inr (by simpa using HT.out);obtain ⟨at_,hate⟩:∃ a,a = A + 1:=⟨_,rfl⟩;rw [← hate] at HS HBE hat ⊢;clear hate HT wP wP' wA hat0;have z9:wx.heap.size ≤ w9.heap.size:=b9.size;have V9:=(HVx.out.below b9 (by omega)).drew;have b9':Below wx.heap.size wx w9.drew:=b9.trans (show Below wx.heap.size w9 w9.drew from ⟨rfl,rfl,rfl,Nat.le_refl _,fun _ _ => rfl⟩);have X9:Box w9.drew wi.heap.size cR.toArray 66:=HXx.out.below b9' (by omega);have R9:layRec.rd w9.drew hi (x0 M) cR:=layRec.rd_below HRx.out b9' (by omega);have B9:Below w.heap.size w w9.drew:=HBx.out.trans (b9'.mono (by omega))
                  have rg9:w9.drew.rangeAt wi.heap.size 0 cR:=fun j v hv => by
                    have:=(X9.cell j).trans (by simpa using hv);rw [Nat.zero_add];exact this
                  obtain ⟨D,hD⟩:∃ D,D = w9.drew:=⟨_,rfl⟩;have HD:Hid (D = w9.drew):=hD;rw [← hD] at V9 X9 R9 B9 rg9
                  have zD:w9.heap.size = D.heap.size:=by rw [hD];rfl
                  clear hD b9 b9';obtain ⟨aU,cU,hUr,sU,hUz⟩:=V9.upto_ (show hi ≤ D.heap.size by omega) (al:=at_) hat;obtain ⟨aF,cF,hFr,sF,rF,hFz⟩:=V9.from_ (show hi ≤ D.heap.size by omega) (al:=at_) hat
                  have hAU:∀ b off,aU = some ⟨b,off,none⟩ → b < D.heap.size:=fun b off e => by
                    rcases V9.form2 with ⟨e3,e4⟩ | ⟨g,cp,e3,e4,hg⟩
                    · have hz:at_ = 0:=by omega
                      have:=hUr D;rw [e3,hz,run_upto0 D] at this
                      simp only [Result.ok.injEq,Value.slice.injEq,and_true] at this
                      rw [← this.1] at e
                      cases e
                    · have:=hUr D
                      rw [e3,run_upto9 g n cp at_ hat e4 D] at this
                      simp only [Result.ok.injEq,Value.slice.injEq,and_true] at this
                      rw [← this.1] at e
                      cases e
                      exact hg
                  have hAF:∀ b off,aF = some ⟨b,off,none⟩ → b < D.heap.size:=fun b off e => by
                    rcases V9.form2 with ⟨e3,e4⟩ | ⟨g,cp,e3,e4,hg⟩
                    · have hz:at_ = 0:=by omega
                      have:=hFr D;rw [e3,hz,run_from0 D] at this
                      simp only [Result.ok.injEq,Value.slice.injEq,and_true] at this
                      rw [← this.1] at e
                      cases e
                    · have:=hFr D
                      rw [e3,run_from9 g n cp at_ hat D] at this
                      simp only [Result.ok.injEq,Value.slice.injEq,and_true] at this
                      rw [← this.1] at e
                      split at e <;> cases e <;> exact hg
                  have hiD:hi ≤ D.heap.size:=by omega
                  have hpD:wi.heap.size < D.heap.size:=X9.lt
                  have hatL:at_ ≤ l.length:=by rw [← HN.out];exact hat
                  have HCN:Hid (Cnt x0 (M + 1) (l.take at_ ++ M :: l.drop at_)):=HCt.out.ins HF.out at_ hatL (fun k h1 h2 => HBE.out k h1 (by rw [HN.out];exact h2)) HS.out;have HRd:Hid (layRec.rd D hi (x0 M) cR):=R9;have HBD:Hid (Below w.heap.size w D):=B9;have HUS:Hid (Src layRec D hi aU at_ (fun i => x0 (l.getD i 0)) co):=sU;have HFS:Hid (Src layRec D hi aF (n - at_) (fun j => x0 (l.getD (at_ + j) 0)) (fun j => co (at_ + j))):=sF;clear V9 X9 R9 B9 sU sF rF
                  go_upto_region 13 with fail
                  refine wp_region_M 7 (fun w' => w'.rangeAt wi.heap.size 0 cR) mixedO (by rw [← HD.out];exact rg9) (fun hHeld => ?_);rw [← HD.out] at hHeld ⊢;refine wpAnyM_pure (i:=1) (oi:=_) (v:=?_) rfl (by kernel_rfl) (fun _ _ _ h => h) (Or.inl ⟨by kernel_rfl,?_⟩) (by assumption) ?_
                  rotate_left
                  · intro w' hSw;go_simp;try with_reducible rfl
                  try simp only [Act.put,SL]
                  refine wpAnyM_pure (i:=2) (oi:=_) (v:=?_) rfl (by kernel_rfl) (fun _ _ _ h => h) (Or.inl ⟨by kernel_rfl,?_⟩) (by assumption) ?_
                  rotate_left
                  · intro w' hSw;go_simp;try with_reducible rfl
                  try simp only [Act.put,SL]
                  refine wpAnyM_pure (i:=3) (oi:=_) (v:=?_) rfl (by kernel_rfl) (fun _ _ _ h => h) (Or.inl ⟨by kernel_rfl,?_⟩) (by assumption) ?_
                  rotate_left
                  · intro w' hSw
                    try rw [show (Instr.slice 54 (.slice (some ⟨gO,0,none⟩) n cap) none (some (.int .i64 (at_:Int))) none).run Tryz.prog w' = _ from hUr w']
                    have hSl':=hUr w';go_simp
                    try with_reducible rfl
                  try simp only [Act.put,SL]
                  refine wpAnyM_take (i:=5) (oi:=_) (v:=.agg cR.toArray) 16 rfl (by kernel_rfl) (fun _ _ _ h => h) (yieldsIf_load_mid (by kernel_rfl) 66 (.tmp 6) rfl wi.heap.size (0) (by simp [Act.eval,Act.put]) cR _ (fun w h => h) Tryz.underlying66 rfl (info_Rec9 hcR)) (by assumption) ?_
                  try simp only [Act.put,SL]
                  refine wpAnyM_pure (i:=8) (oi:=_) (v:=?_) rfl (by kernel_rfl) (fun _ _ _ h => h) (Or.inl ⟨by kernel_rfl,?_⟩) (by assumption) ?_
                  rotate_left
                  · intro w' hSw;go_simp;try with_reducible rfl
                  try simp only [Act.put,SL]
                  refine wpAnyM_pure (i:=9) (oi:=_) (v:=?_) rfl (by kernel_rfl) (fun _ _ _ h => h) (Or.inl ⟨by kernel_rfl,?_⟩) (by assumption) ?_
                  rotate_left
                  · intro w' hSw;go_simp;try with_reducible rfl
                  try simp only [Act.put,SL]
                  refine wpAnyM_pure (i:=10) (oi:=_) (v:=?_) rfl (by kernel_rfl) (fun _ _ _ h => h) (Or.inl ⟨by kernel_rfl,?_⟩) (by assumption) ?_
                  rotate_left
                  · intro w' hSw
                    try rw [show (Instr.slice 54 (.slice (some ⟨gO,0,none⟩) n cap) (some (.int .i64 (at_:Int))) none none).run Tryz.prog w' = _ from hFr w']
                    have hSl':=hFr w';go_simp
                    try with_reducible rfl
                  try simp only [Act.put,SL]
                  refine wpAnyM_twoS (i:=0) (j:=6) (o:=_) (o':=_) rfl rfl (by kernel_rfl) (fun KC hKC => ?_) (fun KC hKC => ?_)
                  · refine step_build0 rfl rfl ?_
                    have bA:Below D.heap.size D (D.alloc (.cells #[] 66)):=(Below.refl _ _).alloc (Nat.le_refl _) _;refine hKC _ _ (range_below rg9 bA hpD) ?_;clear hKC KC
                    try simp only [Act.put,SL]
                    have VL:=View.lit0 (E:=layRec) (t:=66) (fun i => x0 (l.getD i 0)) co D hi;have zA1:D.heap.size < (D.alloc (.cells #[] 66)).heap.size:=(box_new D #[] 66).lt;obtain ⟨D1,hD1⟩:∃ x,x = D.alloc (.cells #[] 66):=⟨_,rfl⟩;rw [← hD1] at bA VL zA1 ⊢;clear hD1;refine wpAnyM_twoS (i:=4) (j:=6) (o:=_) (o':=_) rfl rfl (by kernel_rfl) (fun KC hKC => ?_) (fun KC hKC => ?_)
                    · skip
                      obtain ⟨v4,w4,cv4,runv4,V4,bw4⟩:=ins_up (lo:=lo) HUS.out hUz hAU bA hiD (by omega) VL;refine step_run2 rfl (.tmp 55) (.tmp 58) rfl (by simp [Act.eval,Act.put]) (by simp [Act.eval,Act.put]) runv4 ?_;have b4D:=bA.trans bw4;refine hKC _ _ (range_below rg9 b4D hpD) ?_;clear hKC KC
                      try simp only [Act.put,SL]
                      refine wpAnyM_oneS (i:=6) (o:=_) rfl (by kernel_rfl) (fun KC hKC => ?_);refine step_build1R rfl (.tmp 60) rfl HRd.out (by simp [Act.eval,Act.put]) ?_;have b6:Below w4.heap.size w4 (w4.alloc (.cells cR.toArray 66)):=(Below.refl _ _).alloc (Nat.le_refl _) _;have b6D:=b4D.trans (b6.mono b4D.size);refine hKC _ _ (range_below rg9 b6D hpD) ?_;clear hKC KC
                      try simp only [Act.put,SL]
                      have V6:=V4.below b6 (by have:=b4D.size;omega);have X6:Box (w4.alloc (.cells cR.toArray 66)) w4.heap.size cR.toArray 66:=box_new _ _ _;obtain ⟨v7,w7,cv7,runv7,V7,bw7⟩:=ins_one b6D hiD (by omega) V6 X6 (layRec.rd_below HRd.out b6D hiD);refine wpAnyM_one (i:=7) (o:=_) rfl (by kernel_rfl) (by kernel_rfl) (fun KC hKC => ?_);refine step_run2 rfl (.tmp 59) (.tmp 61) rfl (by simp [Act.eval,Act.put]) (by simp [Act.eval,Act.put]) runv7 ?_;refine hKC _ _ ?_;clear hKC KC
                      try simp only [Act.put,SL]
                      have b7D:=b6D.trans bw7;obtain ⟨v8,w8,cv8,runv8,V8,bw8⟩:=ins_rest HFS.out hFz hAF b7D hiD (by omega) V7;refine wpAnyM_one (i:=11) (o:=_) rfl (by kernel_rfl) (by kernel_rfl) (fun KC hKC => ?_);refine step_run2 rfl (.tmp 62) (.tmp 65) rfl (by simp [Act.eval,Act.put]) (by simp [Act.eval,Act.put]) runv8 ?_;refine hKC _ _ ?_;clear hKC KC
                      try simp only [Act.put,SL]
                      refine wpAnyM_pureL (i:=12) (oi:=_) (v:=?_) rfl (by kernel_rfl) (fun _ _ _ h => h) (Or.inl ⟨by kernel_rfl,?_⟩) ?_
                      rotate_left
                      · intro w' hSw;go_simp;try with_reducible rfl
                      try simp only [Act.put,SL]
                      refine wpAnyM_done (by kernel_rfl) ?_ _
                      have HV8:Hid (View layRec 66 w8 D.heap.size hi v8 (l.take at_ ++ M :: l.drop at_).length (fun i => x0 ((l.take at_ ++ M :: l.drop at_).getD i 0)) cv8):=by
                        show View _ _ _ _ _ _ _ _ _
                        rw [ins_len l M at_ hatL,← HN.out];exact V8.congr (fun i _ => ins_getD x0 l M at_ hatL i)
                      have HB8:Hid (Below w.heap.size w w8):=HBD.out.trans ((b7D.trans bw8).mono (by omega));have z8:D.heap.size ≤ w8.heap.size:=(b7D.trans bw8).size
                      have HLn:Hid ((l.take at_ ++ M :: l.drop at_).length ≤ L0 + (i + 1)):=by
                        show (l.take at_ ++ M :: l.drop at_).length ≤ L0 + (i + 1)
                        rw [ins_len l M at_ hatL,← HN.out];omega
                      clear V8 V7 bw7 bw8 b7D hHeld runv7 runv8 hUr hFr hUz hFz hAU hAF rg9 HUS HFS HRd HBD;go_wp2
                      go_roundw
                      case rel => exact ⟨i + 1,D.heap.size,l.take at_ ++ M :: l.drop at_,cv8,by omega,by go_num,by omega,z8,by rw [← Nat.add_assoc,← HMM.out];exact HCN.out,HLn.out,HV8.out,HB8.out⟩
                      case measure => simp [intOf];omega
                    · refine step_build1R rfl (.tmp 60) rfl HRd.out (by simp [Act.eval,Act.put]) ?_
                      have b6:Below D1.heap.size D1 (D1.alloc (.cells cR.toArray 66)):=(Below.refl _ _).alloc (Nat.le_refl _) _;have b6D:=bA.trans (b6.mono bA.size);refine hKC _ _ (range_below rg9 b6D hpD) ?_;clear hKC KC
                      try simp only [Act.put,SL]
                      have VL6:=VL.below b6 (by have:=bA.size;omega);have X6:Box (D1.alloc (.cells cR.toArray 66)) D1.heap.size cR.toArray 66:=box_new _ _ _;have z6:D1.heap.size < (D1.alloc (.cells cR.toArray 66)).heap.size:=X6.lt;have zA:=bA.size;obtain ⟨D2,hD2⟩:∃ x,x = D1.alloc (.cells cR.toArray 66):=⟨_,rfl⟩;rw [← hD2] at b6 b6D VL6 X6 z6 ⊢;clear hD2;have XK:=X6;obtain ⟨v4,w4,cv4,runv4,⟨V4,X4⟩,bw4⟩:=ins_up4 HUS.out hUz hAU b6D hiD (by omega) VL6 X6 (fun h => by simp [Value.ownBlock] at h;omega);refine wpAnyM_oneS (i:=4) (o:=_) rfl (by kernel_rfl) (fun KC hKC => ?_);refine step_run2 rfl (.tmp 55) (.tmp 58) rfl (by simp [Act.eval,Act.put]) (by simp [Act.eval,Act.put]) runv4 ?_;have b4D:=b6D.trans bw4;refine hKC _ _ (range_below rg9 b4D hpD) ?_;clear hKC KC
                      try simp only [Act.put,SL]
                      obtain ⟨v7,w7,cv7,runv7,V7,bw7⟩:=ins_one b4D hiD (by omega) V4 X4 (layRec.rd_below HRd.out b4D hiD);refine wpAnyM_one (i:=7) (o:=_) rfl (by kernel_rfl) (by kernel_rfl) (fun KC hKC => ?_);refine step_run2 rfl (.tmp 59) (.tmp 61) rfl (by simp [Act.eval,Act.put]) (by simp [Act.eval,Act.put]) runv7 ?_;refine hKC _ _ ?_;clear hKC KC
                      try simp only [Act.put,SL]
                      have b7D:=b4D.trans bw7;obtain ⟨v8,w8,cv8,runv8,V8,bw8⟩:=ins_rest HFS.out hFz hAF b7D hiD (by omega) V7;refine wpAnyM_one (i:=11) (o:=_) rfl (by kernel_rfl) (by kernel_rfl) (fun KC hKC => ?_);refine step_run2 rfl (.tmp 62) (.tmp 65) rfl (by simp [Act.eval,Act.put]) (by simp [Act.eval,Act.put]) runv8 ?_;refine hKC _ _ ?_;clear hKC KC
                      try simp only [Act.put,SL]
                      refine wpAnyM_pureL (i:=12) (oi:=_) (v:=?_) rfl (by kernel_rfl) (fun _ _ _ h => h) (Or.inl ⟨by kernel_rfl,?_⟩) ?_
                      rotate_left
                      · intro w' hSw;go_simp;try with_reducible rfl
                      try simp only [Act.put,SL]
                      refine wpAnyM_done (by kernel_rfl) ?_ _
                      have HV8:Hid (View layRec 66 w8 D.heap.size hi v8 (l.take at_ ++ M :: l.drop at_).length (fun i => x0 ((l.take at_ ++ M :: l.drop at_).getD i 0)) cv8):=by
                        show View _ _ _ _ _ _ _ _ _
                        rw [ins_len l M at_ hatL,← HN.out];exact V8.congr (fun i _ => ins_getD x0 l M at_ hatL i)
                      have HB8:Hid (Below w.heap.size w w8):=HBD.out.trans ((b7D.trans bw8).mono (by omega));have z8:D.heap.size ≤ w8.heap.size:=(b7D.trans bw8).size
                      have HLn:Hid ((l.take at_ ++ M :: l.drop at_).length ≤ L0 + (i + 1)):=by
                        show (l.take at_ ++ M :: l.drop at_).length ≤ L0 + (i + 1)
                        rw [ins_len l M at_ hatL,← HN.out];omega
                      clear V8 V7 bw7 bw8 b7D hHeld runv7 runv8 hUr hFr hUz hFz hAU hAF rg9 HUS HFS HRd HBD;go_wp2
                      go_roundw
                      case rel => exact ⟨i + 1,D.heap.size,l.take at_ ++ M :: l.drop at_,cv8,by omega,by go_num,by omega,z8,by rw [← Nat.add_assoc,← HMM.out];exact HCN.out,HLn.out,HV8.out,HB8.out⟩
                      case measure => simp [intOf];omega
                  · refine step_build1R rfl (.tmp 60) rfl HRd.out (by simp [Act.eval,Act.put]) ?_
                    have bA:Below D.heap.size D (D.alloc (.cells cR.toArray 66)):=(Below.refl _ _).alloc (Nat.le_refl _) _;refine hKC _ _ (range_below rg9 bA hpD) ?_;clear hKC KC
                    try simp only [Act.put,SL]
                    have XA:Box (D.alloc (.cells cR.toArray 66)) D.heap.size cR.toArray 66:=box_new _ _ _;have zA:D.heap.size < (D.alloc (.cells cR.toArray 66)).heap.size:=XA.lt;obtain ⟨D1,hD1⟩:∃ x,x = D.alloc (.cells cR.toArray 66):=⟨_,rfl⟩;rw [← hD1] at bA XA zA ⊢;clear hD1;refine wpAnyM_oneS (i:=0) (o:=_) rfl (by kernel_rfl) (fun KC hKC => ?_);refine step_build0 rfl rfl ?_;have b6:Below D1.heap.size D1 (D1.alloc (.cells #[] 66)):=(Below.refl _ _).alloc (Nat.le_refl _) _;have b6D:=bA.trans (b6.mono bA.size);refine hKC _ _ (range_below rg9 b6D hpD) ?_;clear hKC KC
                    try simp only [Act.put,SL]
                    have VL:=(View.lit0 (E:=layRec) (t:=66) (fun i => x0 (l.getD i 0)) co D1 hi).weakL (lo':=D.heap.size) (by omega);have X6:=XA.below b6 zA;obtain ⟨D2,hD2⟩:∃ x,x = D1.alloc (.cells #[] 66):=⟨_,rfl⟩;rw [← hD2] at b6 b6D VL X6 ⊢;clear hD2;obtain ⟨v4,w4,cv4,runv4,⟨V4,X4⟩,bw4⟩:=ins_up4 HUS.out hUz hAU b6D hiD (by omega) VL X6 (fun h => by simp [Value.ownBlock] at h;omega);refine wpAnyM_oneS (i:=4) (o:=_) rfl (by kernel_rfl) (fun KC hKC => ?_);refine step_run2 rfl (.tmp 55) (.tmp 58) rfl (by simp [Act.eval,Act.put]) (by simp [Act.eval,Act.put]) runv4 ?_;have b4D:=b6D.trans bw4;refine hKC _ _ (range_below rg9 b4D hpD) ?_;clear hKC KC
                    try simp only [Act.put,SL]
                    obtain ⟨v7,w7,cv7,runv7,V7,bw7⟩:=ins_one b4D hiD (by omega) V4 X4 (layRec.rd_below HRd.out b4D hiD);refine wpAnyM_one (i:=7) (o:=_) rfl (by kernel_rfl) (by kernel_rfl) (fun KC hKC => ?_);refine step_run2 rfl (.tmp 59) (.tmp 61) rfl (by simp [Act.eval,Act.put]) (by simp [Act.eval,Act.put]) runv7 ?_;refine hKC _ _ ?_;clear hKC KC
                    try simp only [Act.put,SL]
                    have b7D:=b4D.trans bw7;obtain ⟨v8,w8,cv8,runv8,V8,bw8⟩:=ins_rest HFS.out hFz hAF b7D hiD (by omega) V7;refine wpAnyM_one (i:=11) (o:=_) rfl (by kernel_rfl) (by kernel_rfl) (fun KC hKC => ?_);refine step_run2 rfl (.tmp 62) (.tmp 65) rfl (by simp [Act.eval,Act.put]) (by simp [Act.eval,Act.put]) runv8 ?_;refine hKC _ _ ?_;clear hKC KC
                    try simp only [Act.put,SL]
                    refine wpAnyM_pureL (i:=12) (oi:=_) (v:=?_) rfl (by kernel_rfl) (fun _ _ _ h => h) (Or.inl ⟨by kernel_rfl,?_⟩) ?_
                    rotate_left
                    · intro w' hSw;go_simp;try with_reducible rfl
                    try simp only [Act.put,SL]
                    refine wpAnyM_done (by kernel_rfl) ?_ _
                    have HV8:Hid (View layRec 66 w8 D.heap.size hi v8 (l.take at_ ++ M :: l.drop at_).length (fun i => x0 ((l.take at_ ++ M :: l.drop at_).getD i 0)) cv8):=by
                      show View _ _ _ _ _ _ _ _ _
                      rw [ins_len l M at_ hatL,← HN.out];exact V8.congr (fun i _ => ins_getD x0 l M at_ hatL i)
                    have HB8:Hid (Below w.heap.size w w8):=HBD.out.trans ((b7D.trans bw8).mono (by omega));have z8:D.heap.size ≤ w8.heap.size:=(b7D.trans bw8).size
                    have HLn:Hid ((l.take at_ ++ M :: l.drop at_).length ≤ L0 + (i + 1)):=by
                      show (l.take at_ ++ M :: l.drop at_).length ≤ L0 + (i + 1)
                      rw [ins_len l M at_ hatL,← HN.out];omega
                    clear V8 V7 bw7 bw8 b7D hHeld runv7 runv8 hUr hFr hUz hFz hAU hAF rg9 HUS HFS HRd HBD;go_wp2
                    go_roundw
                    case rel => exact ⟨i + 1,D.heap.size,l.take at_ ++ M :: l.drop at_,cv8,by omega,by go_num,by omega,z8,by rw [← Nat.add_assoc,← HMM.out];exact HCN.out,HLn.out,HV8.out,HB8.out⟩
                    case measure => simp [intOf];omega
        · obtain rfl:i = m:=by omega
          clear hrs hlt2;go_wp2
          go_roundw
          case rel => exact ⟨T + 1,lo,l,co,by omega,by go_num,hlo,hlow,by rw [HLS.out];exact HCt.out,by rw [HLS.out,← HN.out];exact hLl,by rw [← HN.out];exact HV.out,HBW.out⟩
          case measure => simp [intOf];omega
    · obtain rfl:T = 2:=by omega
      clear hlt bw;go_wp2;go_ret;exact ⟨_,l,co,lo,rfl,HCt.out,hlo,HV.out,HBW.out⟩
end Go.Proofs.YtfoidpcoiankoaaGreat
namespace Go.Proofs.YtfoidpcoiankoaaGreat
open Go.RowKit F256
def LiveK (x:Nat → RecD) (N k:Nat) (l:List Nat):Prop:=(∀ i,i ∈ l ↔ i < k ∧ LiveP x N i) ∧ l.Pairwise (fun a b => nmL (x a) < nmL (x b))
theorem bl_eq (a b:ByteArray):Op.bytesLess a.toList b.toList = decide (a.data.toList < b.data.toList):=by
  rw [bytesLess_eq,ByteArray.toList_eq,ByteArray.toList_eq]
theorem LiveK.nil (x:Nat → RecD) (N:Nat):LiveK x N 0 []:=⟨fun i => ⟨(fun h => by cases h),(fun h => by omega)⟩,List.Pairwise.nil⟩
theorem LiveK.skip {x:Nat → RecD} {N k:Nat} {l:List Nat} (h:LiveK x N k l) (hn:¬ LiveP x N k):LiveK x N (k + 1) l :=
  ⟨fun i => by
    rw [h.1 i]
    constructor
    · rintro ⟨h1,h2⟩
      exact ⟨by omega,h2⟩
    · rintro ⟨h1,h2⟩
      refine ⟨?_,h2⟩
      by_cases e:i = k
      · subst e;exact absurd h2 hn
      · omega,h.2⟩
theorem LiveK.done {x:Nat → RecD} {N:Nat} {l:List Nat} (h:LiveK x N N l):Live x N l:=⟨fun i => by rw [h.1 i];exact ⟨fun h => h.2,fun h => ⟨h.1,h⟩⟩,h.2⟩
theorem LiveP.same {x:Nat → RecD} {N a b:Nat} (h:LiveP x N a) (k:LiveP x N b) (e:nmL (x a) = nmL (x b)):a = b:=by
  have e2:(x a).name = (x b).name:=by
    have h1:=bytesOf (x a).name;have h2:=bytesOf (x b).name;rw [← h1,← h2];exact congrArg (fun l:List UInt8 => (⟨l.toArray⟩:ByteArray)) e
  have h1:=h.2.2.2;have h2:=k.2.2.2;rw [e2,h2] at h1;omega
theorem LiveK.ins {x:Nat → RecD} {N M:Nat} {l:List Nat} (h:LiveK x N M l) (hp:LiveP x N M) (al:Nat) (hat:al ≤ l.length) (hbeh:∀ k,al ≤ k → k < l.length → nmL (x M) < nmL (x (l.getD k 0))) (hS:al = 0 ∨ ¬ nmL (x M) < nmL (x (l.getD (al - 1) 0))):LiveK x N (M + 1) (l.take al ++ M :: l.drop al):=by
  have hmem:∀ i,i ∈ l.take al ++ M :: l.drop al ↔ i = M ∨ i ∈ l:=fun i => by
    have e:i ∈ l ↔ i ∈ l.take al ∨ i ∈ l.drop al:=by
      rw [← List.mem_append,List.take_append_drop]
    rw [List.mem_append,List.mem_cons,e]
    constructor
    · rintro (h | h | h)
      · exact .inr (.inl h)
      · exact .inl h
      · exact .inr (.inr h)
    · rintro (h | h | h)
      · exact .inr (.inl h)
      · exact .inl h
      · exact .inr (.inr h)
  have hpl:=h.2;rw [← List.take_append_drop al l] at hpl;obtain ⟨p1,p2,p3⟩:=List.pairwise_append.1 hpl
  have hb:∀ a,a ∈ l.drop al → nmL (x M) < nmL (x a):=fun a ha => by
    obtain ⟨j,hj,rfl⟩:=List.getElem_of_mem ha;rw [List.length_drop] at hj;have:=hbeh (al + j) (by omega) (by omega);rw [List.getElem_drop];rw [List.getD_eq_getElem?_getD,List.getElem?_eq_getElem (by omega)] at this;exact this
  have ha:∀ a,a ∈ l.take al → nmL (x a) < nmL (x M):=fun a ha => by
    obtain ⟨j,hj,rfl⟩:=List.getElem_of_mem ha;rw [List.length_take] at hj;rw [List.getElem_take]
    have hal:al - 1 < l.length:=by omega
    have hlast:nmL (x (l[al - 1]'hal)) < nmL (x M):=by
      rcases hS with e | hS
      · omega
      · rw [List.getD_eq_getElem?_getD,List.getElem?_eq_getElem hal] at hS
        have hne:nmL (x (l[al - 1]'hal)) ≠ nmL (x M):=fun e => by
          have hm:=(h.1 _).1 (List.getElem_mem hal);have:=LiveP.same hm.2 hp e;omega
        apply Classical.byContradiction
        intro hn;exact hne (List.le_antisymm (List.not_lt.1 hS) (List.not_lt.1 hn))
    by_cases e:j = al - 1
    · subst e;exact hlast
    · have:=List.pairwise_iff_getElem.1 h.2 j (al - 1) (by omega) hal (by omega)
      exact List.lt_trans this hlast
  refine ⟨fun i => ?_,List.pairwise_append.2 ⟨p1,List.pairwise_cons.2 ⟨hb,p2⟩,fun a h1 b h2 => ?_⟩⟩
  · rw [hmem,h.1 i]
    constructor
    · rintro (rfl | ⟨h1,h2⟩)
      · exact ⟨by omega,hp⟩
      · exact ⟨by omega,h2⟩
    · rintro ⟨h1,h2⟩
      by_cases e:i = M
      · exact .inl e
      · exact .inr ⟨by omega,h2⟩
  · rcases List.mem_cons.1 h2 with rfl | h2
    · exact ha a h1
    · exact p3 a h1 b h2
theorem place_ex (p:Nat → Prop):∀ n,∃ al,al ≤ n ∧ (∀ k,al ≤ k → k < n → p k) ∧ (al = 0 ∨ ¬ p (al - 1))
  | 0 => ⟨0,Nat.le_refl _,fun k h1 h2 => by omega,.inl rfl⟩
  | n + 1 => by
    by_cases h:p n
    · obtain ⟨al,h1,h2,h3⟩:=place_ex p n
      exact ⟨al,by omega,fun k q1 q2 => by
        by_cases e:k = n
        · subst e;exact h
        · exact h2 k q1 (by omega),h3⟩
    · exact ⟨n + 1,Nat.le_refl _,fun k h1 h2 => by omega,.inr h⟩
theorem liveK_ex (x:Nat → RecD) (N:Nat):∀ k,∃ l,LiveK x N k l
  | 0 => ⟨_,LiveK.nil x N⟩
  | k + 1 => by
    obtain ⟨l,h⟩:=liveK_ex x N k
    by_cases hp:LiveP x N k
    · obtain ⟨al,h1,h2,h3⟩:=place_ex (fun i => nmL (x k) < nmL (x (l.getD i 0))) l.length
      exact ⟨_,h.ins hp al h1 h2 h3⟩
    · exact ⟨l,h.skip hp⟩
theorem live_ex (x:Nat → RecD) (N:Nat):∃ l,Live x N l:=by
  obtain ⟨l,h⟩:=liveK_ex x N N;exact ⟨l,h.done⟩
set_option maxHeartbeats 8000000 in
set_option maxRecDepth 100000 in
theorem l6Live_any (v:Value) (N:Nat) (x0:Nat → RecD) (hi:Nat) (w:World) (h:(layRec.slice 66).rd w hi (N,x0) [v]) (hhi:hi ≤ w.heap.size) (hNb:N ≤ 800000) :
    Calls Tryz.prog 49 #[v] w (fun e w' => ∃ v' l ce lo,e = .returned v' ∧ Live x0 N l ∧ w.heap.size ≤ lo ∧ View layRec 66 w' lo hi v' l.length (fun i => x0 (l.getD i 0)) ce ∧ Below w.heap.size w w'):=by
  obtain ⟨ao0,cap0,ev,_⟩:=h
  obtain rfl:v = .slice ao0 N cap0:=by simpa using ev
  have HRS:Hid (∀ w',Below w.heap.size w w' → (layRec.slice 66).rd w' hi (N,x0) [.slice ao0 N cap0]):=fun w' hb => Lay.rd_below _ ⟨ao0,cap0,ev,by assumption⟩ hb hhi;have bL:Below w.heap.size w (w.alloc (.cells #[] 66)):=(Below.refl _ _).alloc (Nat.le_refl _) _;have V0:=View.lit0 (E:=layRec) (t:=66) (fun i => x0 (([]:List Nat).getD i 0)) (fun _ => []) w hi;clear ev
  go_enter Tryz.func49,Tryz.ntmps49
  go_wp2
  go_loopw [3,4] (fun vo vi wr => ∃ (i lo:Nat) (l:List Nat) (co:Nat → List Value),i ≤ N ∧ vi = .int .i64 i ∧ w.heap.size ≤ lo ∧ lo ≤ wr.heap.size ∧ LiveK x0 N i l ∧ l.length ≤ i ∧ View layRec 66 wr lo hi vo l.length (fun i => x0 (l.getD i 0)) co ∧ Below w.heap.size w wr) (fun _ i _ => N - (intOf i).toNat)
  case atStart => exact ⟨0,w.heap.size,[],fun _ => [],Nat.zero_le _,rfl,Nat.le_refl _,bL.size,LiveK.nil x0 N,Nat.zero_le _,V0,bL⟩
  case round =>
        clear bL V0;obtain ⟨i,lo,l,co,hi',rfl,hlo,hlow,hLK,hLl,V,bw⟩:=hrel;obtain ⟨wi,rfl⟩:∃ y,y = wr:=⟨_,rfl⟩;obtain ⟨n,hn⟩:∃ n,n = l.length:=⟨_,rfl⟩;have HN:Hid (n = l.length):=hn;rw [← hn] at V hLl;have HLK:Hid (LiveK x0 N i l):=hLK;obtain ⟨ao,cap,hvo⟩:=V.form;subst hvo;have HV:Hid (View layRec 66 wi lo hi (.slice ao n cap) n (fun i => x0 (l.getD i 0)) co):=V;have HBW:Hid (Below w.heap.size w wi):=bw;have zr:w.heap.size ≤ wi.heap.size:=bw.size;have hrs:=HRS.out wi bw;clear hLK hn V bw
        by_cases hlt2:i < N
        · obtain ⟨cy,hS,-⟩:=src_of hrs
          obtain ⟨b,off,hrb,hcell⟩:=hS.1 (by omega);subst hrb;have rdR:=hS.2 i hlt2;have hcR:(cy i).length = 9:=layRec.rd_len rdR
          have rgR:wi.rangeAt b (off + i * 9) (cy i):=fun j v hv => by
            have hj:j < 9:=by rw [← hcR];exact (List.getElem?_eq_some_iff.1 hv).1
            have:=hcell i hlt2 j hj;rw [show off + (i * layRec.sz + j) = off + i * 9 + j from (Nat.add_assoc _ _ _).symm] at this;exact this.trans hv
          obtain ⟨cR,hcRe⟩:∃ c,c = cy i:=⟨_,rfl⟩;rw [← hcRe] at rgR hcR rdR;obtain ⟨M,hM⟩:∃ M,M = i:=⟨_,rfl⟩;have HMM:Hid (M = i):=hM;rw [← hM] at rdR HLK;have oneR:∀ v,v ∈ cR → v.oneCell' = true:=rdOne_rec _ _ _ _ rdR
          have i1:(0:Int) ≤ (i:Int):=by omega
          have i2:(i:Int) < (N:Int):=by omega
          have bA:Below wi.heap.size wi (wi.alloc (.cells cR.toArray 66)):=(Below.refl _ _).alloc (Nat.le_refl _) _;have XA:Box (wi.alloc (.cells cR.toArray 66)) wi.heap.size cR.toArray 66:=box_new _ _ _;have rdW:layRec.rd (wi.alloc (.cells cR.toArray 66)) hi (x0 M) cR:=layRec.rd_below rdR bA (by omega)
          have hML:M < N:=by omega
          clear hrs hS hcell hcRe rdR hM
          go_upto_region 6 with (first | (refine wpList_load_mid rfl 66 (.tmp 16) rfl b (off + i * 9) (by simp [Act.eval]) cR _ rgR Tryz.underlying66 rfl (info_Rec9 hcR) ?_) | (refine wp_allocStore 66 5 (.tmp 17) cR _ 9 rfl rfl rfl rfl rfl rfl rfl rfl info_RecZ rfl hcR oneR ?_))
          obtain ⟨W,hW⟩:∃ x,x = wi.alloc (.cells cR.toArray 66):=⟨_,rfl⟩;rw [← hW] at bA XA rdW ⊢;clear hW rgR;have VW:=HV.out.below bA (by omega);have zW':wi.heap.size < W.heap.size:=XA.lt;have HXW:Hid (Box W wi.heap.size cR.toArray 66):=XA;have HVW:Hid (View layRec 66 W lo hi (.slice ao n cap) n (fun i => x0 (l.getD i 0)) co):=VW;have HRW:Hid (layRec.rd W hi (x0 M) cR):=rdW;have HBW2:Hid (Below w.heap.size w W):=HBW.out.trans (bA.mono zr)
          have HCE:Hid (cR[0]? = some (.int .i64 (x0 M).kind) ∧ cR[2]? = some (.string (x0 M).name) ∧ cR[3]? = some (.int .i64 (x0 M).length)):=by
            obtain ⟨ao6,cap6,ao7,cap7,ao8,cap8,hce,-⟩:=Rec_rd rdW;rw [hce];exact ⟨rfl,rfl,rfl⟩
          obtain ⟨kd,hkd⟩:∃ k,k = (x0 M).kind:=⟨_,rfl⟩;obtain ⟨ln,hln⟩:∃ k,k = (x0 M).length:=⟨_,rfl⟩;obtain ⟨nm,hnm⟩:∃ k,k = (x0 M).name:=⟨_,rfl⟩
          have y0:W.cell? ⟨wi.heap.size,0,none⟩ = some (.int .i64 kd):=by rw [XA.cell 0,hkd];simpa using HCE.out.1
          have y2:W.cell? ⟨wi.heap.size,2,none⟩ = some (.string nm):=by rw [XA.cell 2,hnm];simpa using HCE.out.2.1
          have y3:W.cell? ⟨wi.heap.size,3,none⟩ = some (.int .i64 ln):=by rw [XA.cell 3,hln];simpa using HCE.out.2.2
          have HKD:Hid (kd = (x0 M).kind):=hkd;have HLN:Hid (ln = (x0 M).length):=hln;have HNM:Hid (nm = (x0 M).name):=hnm;clear VW XA rdW bA HV HBW hkd hln hnm
          by_cases ck:kd = 1
          case neg =>
            have d1:(kd != 1) = true:=by simp [ck]
            have HNO:Hid (¬ LiveP x0 N M):=fun q => ck (HKD.out.trans q.2.1);clear ck;go_wp2
            go_roundw
            case rel => exact ⟨i + 1,lo,l,co,by omega,by go_num,hlo,by omega,by rw [← HMM.out];exact HLK.out.skip HNO.out,by rw [← HN.out];omega,by rw [← HN.out];exact HVW.out,HBW2.out⟩
            case measure => simp [intOf];omega
          have d1:(kd != 1) = false:=by simp [ck]
          have HCK:Hid (kd = 1):=ck;clear ck
          by_cases cl:ln < 0
          case pos =>
            have HNO:Hid (¬ LiveP x0 N M):=fun q => q.2.2.1 (by rw [← HLN.out];exact cl);go_wp2
            go_roundw
            case rel => exact ⟨i + 1,lo,l,co,by omega,by go_num,hlo,by omega,by rw [← HMM.out];exact HLK.out.skip HNO.out,by rw [← HN.out];omega,by rw [← HN.out];exact HVW.out,HBW2.out⟩
            case measure => simp [intOf];omega
          have HCL:Hid (¬ ln < 0):=cl;have CN:=l6Newest_any (.slice (some ⟨b,off,none⟩) N cap0) N x0 nm hi W (HRS.out W HBW2.out) (by omega) (by omega);obtain ⟨at9,hat9⟩:∃ a,a = lastI (itm x0 nm) N:=⟨_,rfl⟩;have HAT9:Hid (at9 = lastI (itm x0 nm) N):=hat9;rw [← hat9] at CN;clear hat9
          go_wp2_with fail
          refine CN.mono ?_;rintro ee w5 ⟨rfl,b5⟩;have z5:W.heap.size ≤ w5.heap.size:=b5.size;have HV5:Hid (View layRec 66 w5 lo hi (.slice ao n cap) n (fun i => x0 (l.getD i 0)) co):=HVW.out.below b5 (by omega);have HX5:Hid (Box w5 wi.heap.size cR.toArray 66):=HXW.out.below b5 zW';have HR5:Hid (layRec.rd w5 hi (x0 M) cR):=layRec.rd_below HRW.out b5 (by omega);have HB5:Hid (Below w.heap.size w w5):=HBW2.out.trans (b5.mono (by omega));clear b5 CN HVW HXW HRW HBW2 y0 y2 y3
          by_cases ca:at9 = (i:Int)
          case neg =>
            have da:(at9 != (i:Int)) = true:=by simp [ca]
            have HNO:Hid (¬ LiveP x0 N M):=fun q => ca (by rw [HAT9.out,HNM.out,q.2.2.2,HMM.out]);have HVW:=HV5;have HBW2:=HB5;clear ca;go_wp2
            go_roundw
            case rel => exact ⟨i + 1,lo,l,co,by omega,by go_num,hlo,by omega,by rw [← HMM.out];exact HLK.out.skip HNO.out,by rw [← HN.out];omega,by rw [← HN.out];exact HVW.out,HBW2.out⟩
            case measure => simp [intOf];omega
          have da:(at9 != (i:Int)) = false:=by simp [ca]
          have HF:Hid (LiveP x0 N M):=⟨hML,by rw [← HKD.out];exact HCK.out,by rw [← HLN.out];omega,by rw [← HNM.out,← HAT9.out,ca,HMM.out]⟩;clear ca cl;go_wp2
          go_loopw [6] (fun va wx => ∃ at_:Nat,at_ ≤ n ∧ va = .int .i64 at_ ∧ (∀ k,at_ ≤ k → k < n → nmL (x0 M) < nmL (x0 (l.getD k 0))) ∧ Below w5.heap.size w5 wx) (fun va _ => (intOf va).toNat)
          case atStart => exact ⟨n,Nat.le_refl _,by go_num,fun k h1 h2 => by omega,Below.refl _ _⟩
          case round =>
              obtain ⟨at_,hat,rfl,hbeh,bx⟩:=hrel;obtain ⟨wx,rfl⟩:∃ y,y = wr:=⟨_,rfl⟩;have HBE:Hid (∀ k,at_ ≤ k → k < n → nmL (x0 M) < nmL (x0 (l.getD k 0))):=hbeh;have zx:w5.heap.size ≤ wx.heap.size:=bx.size;have HVx:Hid (View layRec 66 wx lo hi (.slice ao n cap) n (fun i => x0 (l.getD i 0)) co):=HV5.out.below bx (by omega);have HXx:Hid (Box wx wi.heap.size cR.toArray 66):=HX5.out.below bx (by omega);have HRx:Hid (layRec.rd wx hi (x0 M) cR):=layRec.rd_below HR5.out bx (by omega);have HBx:Hid (Below w.heap.size w wx):=HB5.out.trans (bx.mono (by omega));have HB5x:Hid (Below w5.heap.size w5 wx):=bx;have bD:Below wx.heap.size wx wx.drew:=⟨rfl,rfl,rfl,Nat.le_refl _,fun _ _ => rfl⟩;clear hbeh bx
              by_cases hat0:at_ = 0
              · have d1:decide (0 < at_) = false:=decide_eq_false (by omega)
                have d2:decide ((0:Int) < (at_:Int)) = false:=decide_eq_false (by omega);have HS:Hid (at_ = 0 ∨ ¬ nmL (x0 M) < nmL (x0 (l.getD (at_ - 1) 0))):=.inl hat0;clear hat0
                go_upto_region 8 with fail
                refine wp_region_M 13 (fun w' => True) mixedO trivial (fun hHeld => ?_);refine wpAnyM_pure (i:=0) (oi:=_) (v:=?_) rfl (by kernel_rfl) (fun _ _ _ h => h) (Or.inl ⟨by kernel_rfl,?_⟩) (by assumption) ?_
                rotate_left
                · intro w' hSw;go_simp;try with_reducible rfl
                try simp only [Act.put,SL]
                refine wpAnyM_pure (i:=1) (oi:=_) (v:=?_) rfl (by kernel_rfl) (fun _ _ _ h => h) (Or.inl ⟨by kernel_rfl,?_⟩) (by assumption) ?_
                rotate_left
                · intro w' hSw;go_simp;try with_reducible rfl
                try simp only [Act.put,SL]
                try rw [d1]
                refine wpAnyM_pure (i:=2) (oi:=_) (v:=?_) rfl (by kernel_rfl) (fun _ _ _ h => h) (Or.inl ⟨by kernel_rfl,?_⟩) (by assumption) ?_
                rotate_left
                · intro w' hSw;go_simp;try with_reducible rfl
                try simp only [Act.put,SL]
                refine wpAnyM_pure (i:=3) (oi:=_) (v:=undef) rfl (by kernel_rfl) (fun _ _ _ h => h) (Or.inr ⟨by kernel_rfl,rfl⟩) (by assumption) ?_
                try simp only [Act.put,SL]
                refine wpAnyM_pure (i:=4) (oi:=_) (v:=undef) rfl (by kernel_rfl) (fun _ _ _ h => h) (Or.inr ⟨by kernel_rfl,rfl⟩) (by assumption) ?_
                try simp only [Act.put,SL]
                refine wpAnyM_pure (i:=5) (oi:=_) (v:=undef) rfl (by kernel_rfl) (fun _ _ _ h => h) (Or.inr ⟨by kernel_rfl,rfl⟩) (by assumption) ?_
                try simp only [Act.put,SL]
                refine wpAnyM_pure (i:=6) (oi:=_) (v:=undef) rfl (by kernel_rfl) (fun _ _ _ h => h) (Or.inr ⟨by kernel_rfl,rfl⟩) (by assumption) ?_
                try simp only [Act.put,SL]
                refine wpAnyM_pure (i:=7) (oi:=_) (v:=undef) rfl (by kernel_rfl) (fun _ _ _ h => h) (Or.inr ⟨by kernel_rfl,rfl⟩) (by assumption) ?_
                try simp only [Act.put,SL]
                refine wpAnyM_pure (i:=8) (oi:=_) (v:=undef) rfl (by kernel_rfl) (fun _ _ _ h => h) (Or.inr ⟨by kernel_rfl,rfl⟩) (by assumption) ?_
                try simp only [Act.put,SL]
                refine wpAnyM_pure (i:=9) (oi:=_) (v:=undef) rfl (by kernel_rfl) (fun _ _ _ h => h) (Or.inr ⟨by kernel_rfl,rfl⟩) (by assumption) ?_
                try simp only [Act.put,SL]
                refine wpAnyM_pure (i:=10) (oi:=_) (v:=undef) rfl (by kernel_rfl) (fun _ _ _ h => h) (Or.inr ⟨by kernel_rfl,rfl⟩) (by assumption) ?_
                try simp only [Act.put,SL]
                refine wpAnyM_pure (i:=11) (oi:=_) (v:=undef) rfl (by kernel_rfl) (fun _ _ _ h => h) (Or.inr ⟨by kernel_rfl,rfl⟩) (by assumption) ?_
                try simp only [Act.put,SL]
                refine wpAnyM_pure (i:=12) (oi:=_) (v:=?_) rfl (by kernel_rfl) (fun _ _ _ h => h) (Or.inl ⟨by kernel_rfl,?_⟩) (by assumption) ?_
                rotate_left
                · intro w' hSw;go_simp;try with_reducible rfl
                try simp only [Act.put,SL]
                refine wpAnyM_done (by kernel_rfl) ?_ _;obtain ⟨w9,hw9⟩:∃ x,x = wx.drew:=⟨_,rfl⟩;rw [← hw9] at bD ⊢;have b9:Below wx.heap.size wx w9:=bD;clear bD hw9 hHeld d1 d2;have z9:wx.heap.size ≤ w9.heap.size:=b9.size;have V9:=(HVx.out.below b9 (by omega)).drew;have b9':Below wx.heap.size wx w9.drew:=b9.trans (show Below wx.heap.size w9 w9.drew from ⟨rfl,rfl,rfl,Nat.le_refl _,fun _ _ => rfl⟩);have X9:Box w9.drew wi.heap.size cR.toArray 66:=HXx.out.below b9' (by omega);have R9:layRec.rd w9.drew hi (x0 M) cR:=layRec.rd_below HRx.out b9' (by omega);have B9:Below w.heap.size w w9.drew:=HBx.out.trans (b9'.mono (by omega))
                have rg9:w9.drew.rangeAt wi.heap.size 0 cR:=fun j v hv => by
                  have:=(X9.cell j).trans (by simpa using hv);rw [Nat.zero_add];exact this
                obtain ⟨D,hD⟩:∃ D,D = w9.drew:=⟨_,rfl⟩;have HD:Hid (D = w9.drew):=hD;rw [← hD] at V9 X9 R9 B9 rg9
                have zD:w9.heap.size = D.heap.size:=by rw [hD];rfl
                clear hD b9 b9';obtain ⟨aU,cU,hUr,sU,hUz⟩:=V9.upto_ (show hi ≤ D.heap.size by omega) (al:=at_) hat;obtain ⟨aF,cF,hFr,sF,rF,hFz⟩:=V9.from_ (show hi ≤ D.heap.size by omega) (al:=at_) hat
                have hAU:∀ b off,aU = some ⟨b,off,none⟩ → b < D.heap.size:=fun b off e => by
                  rcases V9.form2 with ⟨e3,e4⟩ | ⟨g,cp,e3,e4,hg⟩
                  · have hz:at_ = 0:=by omega
                    have:=hUr D;rw [e3,hz,run_upto0 D] at this
                    simp only [Result.ok.injEq,Value.slice.injEq,and_true] at this
                    rw [← this.1] at e
                    cases e
                  · have:=hUr D
                    rw [e3,run_upto9 g n cp at_ hat e4 D] at this
                    simp only [Result.ok.injEq,Value.slice.injEq,and_true] at this
                    rw [← this.1] at e
                    cases e
                    exact hg
                have hAF:∀ b off,aF = some ⟨b,off,none⟩ → b < D.heap.size:=fun b off e => by
                  rcases V9.form2 with ⟨e3,e4⟩ | ⟨g,cp,e3,e4,hg⟩
                  · have hz:at_ = 0:=by omega
                    have:=hFr D;rw [e3,hz,run_from0 D] at this
                    simp only [Result.ok.injEq,Value.slice.injEq,and_true] at this
                    rw [← this.1] at e
                    cases e
                  · have:=hFr D
                    rw [e3,run_from9 g n cp at_ hat D] at this
                    simp only [Result.ok.injEq,Value.slice.injEq,and_true] at this
                    rw [← this.1] at e
                    split at e <;> cases e <;> exact hg
                have hiD:hi ≤ D.heap.size:=by omega
                have hpD:wi.heap.size < D.heap.size:=X9.lt
                have hatL:at_ ≤ l.length:=by rw [← HN.out];exact hat
                have HCN:Hid (LiveK x0 N (M + 1) (l.take at_ ++ M :: l.drop at_)):=HLK.out.ins HF.out at_ hatL (fun k h1 h2 => HBE.out k h1 (by rw [HN.out];exact h2)) HS.out;have HRd:Hid (layRec.rd D hi (x0 M) cR):=R9;have HBD:Hid (Below w.heap.size w D):=B9;have HUS:Hid (Src layRec D hi aU at_ (fun i => x0 (l.getD i 0)) co):=sU;have HFS:Hid (Src layRec D hi aF (n - at_) (fun j => x0 (l.getD (at_ + j) 0)) (fun j => co (at_ + j))):=sF;clear V9 X9 R9 B9 sU sF rF
                go_upto_region 10 with fail
                refine wp_region_M 7 (fun w' => w'.rangeAt wi.heap.size 0 cR) mixedO (by rw [← HD.out];exact rg9) (fun hHeld => ?_);rw [← HD.out] at hHeld ⊢;refine wpAnyM_pure (i:=1) (oi:=_) (v:=?_) rfl (by kernel_rfl) (fun _ _ _ h => h) (Or.inl ⟨by kernel_rfl,?_⟩) (by assumption) ?_
                rotate_left
                · intro w' hSw;go_simp;try with_reducible rfl
                try simp only [Act.put,SL]
                refine wpAnyM_pure (i:=2) (oi:=_) (v:=?_) rfl (by kernel_rfl) (fun _ _ _ h => h) (Or.inl ⟨by kernel_rfl,?_⟩) (by assumption) ?_
                rotate_left
                · intro w' hSw;go_simp;try with_reducible rfl
                try simp only [Act.put,SL]
                refine wpAnyM_pure (i:=3) (oi:=_) (v:=?_) rfl (by kernel_rfl) (fun _ _ _ h => h) (Or.inl ⟨by kernel_rfl,?_⟩) (by assumption) ?_
                rotate_left
                · intro w' hSw
                  try rw [show (Instr.slice 54 (.slice ao n cap) none (some (.int .i64 (at_:Int))) none).run Tryz.prog w' = _ from hUr w']
                  have hSl':=hUr w';go_simp
                  try with_reducible rfl
                try simp only [Act.put,SL]
                refine wpAnyM_take (i:=5) (oi:=_) (v:=.agg cR.toArray) 16 rfl (by kernel_rfl) (fun _ _ _ h => h) (yieldsIf_load_mid (by kernel_rfl) 66 (.tmp 5) rfl wi.heap.size (0) (by simp [Act.eval,Act.put]) cR _ (fun w h => h) Tryz.underlying66 rfl (info_Rec9 hcR)) (by assumption) ?_
                try simp only [Act.put,SL]
                refine wpAnyM_pure (i:=8) (oi:=_) (v:=?_) rfl (by kernel_rfl) (fun _ _ _ h => h) (Or.inl ⟨by kernel_rfl,?_⟩) (by assumption) ?_
                rotate_left
                · intro w' hSw;go_simp;try with_reducible rfl
                try simp only [Act.put,SL]
                refine wpAnyM_pure (i:=9) (oi:=_) (v:=?_) rfl (by kernel_rfl) (fun _ _ _ h => h) (Or.inl ⟨by kernel_rfl,?_⟩) (by assumption) ?_
                rotate_left
                · intro w' hSw;go_simp;try with_reducible rfl
                try simp only [Act.put,SL]
                refine wpAnyM_pure (i:=10) (oi:=_) (v:=?_) rfl (by kernel_rfl) (fun _ _ _ h => h) (Or.inl ⟨by kernel_rfl,?_⟩) (by assumption) ?_
                rotate_left
                · intro w' hSw
                  try rw [show (Instr.slice 54 (.slice ao n cap) (some (.int .i64 (at_:Int))) none none).run Tryz.prog w' = _ from hFr w']
                  have hSl':=hFr w';go_simp
                  try with_reducible rfl
                try simp only [Act.put,SL]
                refine wpAnyM_twoS (i:=0) (j:=6) (o:=_) (o':=_) rfl rfl (by kernel_rfl) (fun KC hKC => ?_) (fun KC hKC => ?_)
                · refine step_build0 rfl rfl ?_
                  have bA:Below D.heap.size D (D.alloc (.cells #[] 66)):=(Below.refl _ _).alloc (Nat.le_refl _) _;refine hKC _ _ (range_below rg9 bA hpD) ?_;clear hKC KC
                  try simp only [Act.put,SL]
                  have VL:=View.lit0 (E:=layRec) (t:=66) (fun i => x0 (l.getD i 0)) co D hi;have zA1:D.heap.size < (D.alloc (.cells #[] 66)).heap.size:=(box_new D #[] 66).lt;obtain ⟨D1,hD1⟩:∃ x,x = D.alloc (.cells #[] 66):=⟨_,rfl⟩;rw [← hD1] at bA VL zA1 ⊢;clear hD1;refine wpAnyM_twoS (i:=4) (j:=6) (o:=_) (o':=_) rfl rfl (by kernel_rfl) (fun KC hKC => ?_) (fun KC hKC => ?_)
                  · skip
                    obtain ⟨v4,w4,cv4,runv4,V4,bw4⟩:=ins_up (lo:=lo) HUS.out hUz hAU bA hiD (by omega) VL;refine step_run2 rfl (.tmp 51) (.tmp 54) rfl (by simp [Act.eval,Act.put]) (by simp [Act.eval,Act.put]) runv4 ?_;have b4D:=bA.trans bw4;refine hKC _ _ (range_below rg9 b4D hpD) ?_;clear hKC KC
                    try simp only [Act.put,SL]
                    refine wpAnyM_oneS (i:=6) (o:=_) rfl (by kernel_rfl) (fun KC hKC => ?_);refine step_build1R rfl (.tmp 56) rfl HRd.out (by simp [Act.eval,Act.put]) ?_;have b6:Below w4.heap.size w4 (w4.alloc (.cells cR.toArray 66)):=(Below.refl _ _).alloc (Nat.le_refl _) _;have b6D:=b4D.trans (b6.mono b4D.size);refine hKC _ _ (range_below rg9 b6D hpD) ?_;clear hKC KC
                    try simp only [Act.put,SL]
                    have V6:=V4.below b6 (by have:=b4D.size;omega);have X6:Box (w4.alloc (.cells cR.toArray 66)) w4.heap.size cR.toArray 66:=box_new _ _ _;obtain ⟨v7,w7,cv7,runv7,V7,bw7⟩:=ins_one b6D hiD (by omega) V6 X6 (layRec.rd_below HRd.out b6D hiD);refine wpAnyM_one (i:=7) (o:=_) rfl (by kernel_rfl) (by kernel_rfl) (fun KC hKC => ?_);refine step_run2 rfl (.tmp 55) (.tmp 57) rfl (by simp [Act.eval,Act.put]) (by simp [Act.eval,Act.put]) runv7 ?_;refine hKC _ _ ?_;clear hKC KC
                    try simp only [Act.put,SL]
                    have b7D:=b6D.trans bw7;obtain ⟨v8,w8,cv8,runv8,V8,bw8⟩:=ins_rest HFS.out hFz hAF b7D hiD (by omega) V7;refine wpAnyM_one (i:=11) (o:=_) rfl (by kernel_rfl) (by kernel_rfl) (fun KC hKC => ?_);refine step_run2 rfl (.tmp 58) (.tmp 61) rfl (by simp [Act.eval,Act.put]) (by simp [Act.eval,Act.put]) runv8 ?_;refine hKC _ _ ?_;clear hKC KC
                    try simp only [Act.put,SL]
                    refine wpAnyM_pureL (i:=12) (oi:=_) (v:=?_) rfl (by kernel_rfl) (fun _ _ _ h => h) (Or.inl ⟨by kernel_rfl,?_⟩) ?_
                    rotate_left
                    · intro w' hSw;go_simp;try with_reducible rfl
                    try simp only [Act.put,SL]
                    refine wpAnyM_done (by kernel_rfl) ?_ _
                    have HV8:Hid (View layRec 66 w8 D.heap.size hi v8 (l.take at_ ++ M :: l.drop at_).length (fun i => x0 ((l.take at_ ++ M :: l.drop at_).getD i 0)) cv8):=by
                      show View _ _ _ _ _ _ _ _ _
                      rw [ins_len l M at_ hatL,← HN.out];exact V8.congr (fun i _ => ins_getD x0 l M at_ hatL i)
                    have HB8:Hid (Below w.heap.size w w8):=HBD.out.trans ((b7D.trans bw8).mono (by omega));have z8:D.heap.size ≤ w8.heap.size:=(b7D.trans bw8).size
                    have HLn:Hid ((l.take at_ ++ M :: l.drop at_).length ≤ i + 1):=by
                      show (l.take at_ ++ M :: l.drop at_).length ≤ i + 1
                      rw [ins_len l M at_ hatL,← HN.out];omega
                    clear V8 V7 bw7 bw8 b7D hHeld runv7 runv8 hUr hFr hUz hFz hAU hAF rg9 HUS HFS HRd HBD;go_wp2
                    go_roundw
                    case rel => exact ⟨i + 1,D.heap.size,l.take at_ ++ M :: l.drop at_,cv8,by omega,by go_num,by omega,z8,by rw [← HMM.out];exact HCN.out,HLn.out,HV8.out,HB8.out⟩
                    case measure => simp [intOf];omega
                  · refine step_build1R rfl (.tmp 56) rfl HRd.out (by simp [Act.eval,Act.put]) ?_
                    have b6:Below D1.heap.size D1 (D1.alloc (.cells cR.toArray 66)):=(Below.refl _ _).alloc (Nat.le_refl _) _;have b6D:=bA.trans (b6.mono bA.size);refine hKC _ _ (range_below rg9 b6D hpD) ?_;clear hKC KC
                    try simp only [Act.put,SL]
                    have VL6:=VL.below b6 (by have:=bA.size;omega);have X6:Box (D1.alloc (.cells cR.toArray 66)) D1.heap.size cR.toArray 66:=box_new _ _ _;have z6:D1.heap.size < (D1.alloc (.cells cR.toArray 66)).heap.size:=X6.lt;have zA:=bA.size;obtain ⟨D2,hD2⟩:∃ x,x = D1.alloc (.cells cR.toArray 66):=⟨_,rfl⟩;rw [← hD2] at b6 b6D VL6 X6 z6 ⊢;clear hD2;have XK:=X6;obtain ⟨v4,w4,cv4,runv4,⟨V4,X4⟩,bw4⟩:=ins_up4 HUS.out hUz hAU b6D hiD (by omega) VL6 X6 (fun h => by simp [Value.ownBlock] at h;omega);refine wpAnyM_oneS (i:=4) (o:=_) rfl (by kernel_rfl) (fun KC hKC => ?_);refine step_run2 rfl (.tmp 51) (.tmp 54) rfl (by simp [Act.eval,Act.put]) (by simp [Act.eval,Act.put]) runv4 ?_;have b4D:=b6D.trans bw4;refine hKC _ _ (range_below rg9 b4D hpD) ?_;clear hKC KC
                    try simp only [Act.put,SL]
                    obtain ⟨v7,w7,cv7,runv7,V7,bw7⟩:=ins_one b4D hiD (by omega) V4 X4 (layRec.rd_below HRd.out b4D hiD);refine wpAnyM_one (i:=7) (o:=_) rfl (by kernel_rfl) (by kernel_rfl) (fun KC hKC => ?_);refine step_run2 rfl (.tmp 55) (.tmp 57) rfl (by simp [Act.eval,Act.put]) (by simp [Act.eval,Act.put]) runv7 ?_;refine hKC _ _ ?_;clear hKC KC
                    try simp only [Act.put,SL]
                    have b7D:=b4D.trans bw7;obtain ⟨v8,w8,cv8,runv8,V8,bw8⟩:=ins_rest HFS.out hFz hAF b7D hiD (by omega) V7;refine wpAnyM_one (i:=11) (o:=_) rfl (by kernel_rfl) (by kernel_rfl) (fun KC hKC => ?_);refine step_run2 rfl (.tmp 58) (.tmp 61) rfl (by simp [Act.eval,Act.put]) (by simp [Act.eval,Act.put]) runv8 ?_;refine hKC _ _ ?_;clear hKC KC
                    try simp only [Act.put,SL]
                    refine wpAnyM_pureL (i:=12) (oi:=_) (v:=?_) rfl (by kernel_rfl) (fun _ _ _ h => h) (Or.inl ⟨by kernel_rfl,?_⟩) ?_
                    rotate_left
                    · intro w' hSw;go_simp;try with_reducible rfl
                    try simp only [Act.put,SL]
                    refine wpAnyM_done (by kernel_rfl) ?_ _
                    have HV8:Hid (View layRec 66 w8 D.heap.size hi v8 (l.take at_ ++ M :: l.drop at_).length (fun i => x0 ((l.take at_ ++ M :: l.drop at_).getD i 0)) cv8):=by
                      show View _ _ _ _ _ _ _ _ _
                      rw [ins_len l M at_ hatL,← HN.out];exact V8.congr (fun i _ => ins_getD x0 l M at_ hatL i)
                    have HB8:Hid (Below w.heap.size w w8):=HBD.out.trans ((b7D.trans bw8).mono (by omega));have z8:D.heap.size ≤ w8.heap.size:=(b7D.trans bw8).size
                    have HLn:Hid ((l.take at_ ++ M :: l.drop at_).length ≤ i + 1):=by
                      show (l.take at_ ++ M :: l.drop at_).length ≤ i + 1
                      rw [ins_len l M at_ hatL,← HN.out];omega
                    clear V8 V7 bw7 bw8 b7D hHeld runv7 runv8 hUr hFr hUz hFz hAU hAF rg9 HUS HFS HRd HBD;go_wp2
                    go_roundw
                    case rel => exact ⟨i + 1,D.heap.size,l.take at_ ++ M :: l.drop at_,cv8,by omega,by go_num,by omega,z8,by rw [← HMM.out];exact HCN.out,HLn.out,HV8.out,HB8.out⟩
                    case measure => simp [intOf];omega
                · refine step_build1R rfl (.tmp 56) rfl HRd.out (by simp [Act.eval,Act.put]) ?_
                  have bA:Below D.heap.size D (D.alloc (.cells cR.toArray 66)):=(Below.refl _ _).alloc (Nat.le_refl _) _;refine hKC _ _ (range_below rg9 bA hpD) ?_;clear hKC KC
                  try simp only [Act.put,SL]
                  have XA:Box (D.alloc (.cells cR.toArray 66)) D.heap.size cR.toArray 66:=box_new _ _ _;have zA:D.heap.size < (D.alloc (.cells cR.toArray 66)).heap.size:=XA.lt;obtain ⟨D1,hD1⟩:∃ x,x = D.alloc (.cells cR.toArray 66):=⟨_,rfl⟩;rw [← hD1] at bA XA zA ⊢;clear hD1;refine wpAnyM_oneS (i:=0) (o:=_) rfl (by kernel_rfl) (fun KC hKC => ?_);refine step_build0 rfl rfl ?_;have b6:Below D1.heap.size D1 (D1.alloc (.cells #[] 66)):=(Below.refl _ _).alloc (Nat.le_refl _) _;have b6D:=bA.trans (b6.mono bA.size);refine hKC _ _ (range_below rg9 b6D hpD) ?_;clear hKC KC
                  try simp only [Act.put,SL]
                  have VL:=(View.lit0 (E:=layRec) (t:=66) (fun i => x0 (l.getD i 0)) co D1 hi).weakL (lo':=D.heap.size) (by omega);have X6:=XA.below b6 zA;obtain ⟨D2,hD2⟩:∃ x,x = D1.alloc (.cells #[] 66):=⟨_,rfl⟩;rw [← hD2] at b6 b6D VL X6 ⊢;clear hD2;obtain ⟨v4,w4,cv4,runv4,⟨V4,X4⟩,bw4⟩:=ins_up4 HUS.out hUz hAU b6D hiD (by omega) VL X6 (fun h => by simp [Value.ownBlock] at h;omega);refine wpAnyM_oneS (i:=4) (o:=_) rfl (by kernel_rfl) (fun KC hKC => ?_);refine step_run2 rfl (.tmp 51) (.tmp 54) rfl (by simp [Act.eval,Act.put]) (by simp [Act.eval,Act.put]) runv4 ?_;have b4D:=b6D.trans bw4;refine hKC _ _ (range_below rg9 b4D hpD) ?_;clear hKC KC
                  try simp only [Act.put,SL]
                  obtain ⟨v7,w7,cv7,runv7,V7,bw7⟩:=ins_one b4D hiD (by omega) V4 X4 (layRec.rd_below HRd.out b4D hiD);refine wpAnyM_one (i:=7) (o:=_) rfl (by kernel_rfl) (by kernel_rfl) (fun KC hKC => ?_);refine step_run2 rfl (.tmp 55) (.tmp 57) rfl (by simp [Act.eval,Act.put]) (by simp [Act.eval,Act.put]) runv7 ?_;refine hKC _ _ ?_;clear hKC KC
                  try simp only [Act.put,SL]
                  have b7D:=b4D.trans bw7;obtain ⟨v8,w8,cv8,runv8,V8,bw8⟩:=ins_rest HFS.out hFz hAF b7D hiD (by omega) V7;refine wpAnyM_one (i:=11) (o:=_) rfl (by kernel_rfl) (by kernel_rfl) (fun KC hKC => ?_);refine step_run2 rfl (.tmp 58) (.tmp 61) rfl (by simp [Act.eval,Act.put]) (by simp [Act.eval,Act.put]) runv8 ?_;refine hKC _ _ ?_;clear hKC KC
                  try simp only [Act.put,SL]
                  refine wpAnyM_pureL (i:=12) (oi:=_) (v:=?_) rfl (by kernel_rfl) (fun _ _ _ h => h) (Or.inl ⟨by kernel_rfl,?_⟩) ?_
                  rotate_left
                  · intro w' hSw;go_simp;try with_reducible rfl
                  try simp only [Act.put,SL]
                  refine wpAnyM_done (by kernel_rfl) ?_ _
                  have HV8:Hid (View layRec 66 w8 D.heap.size hi v8 (l.take at_ ++ M :: l.drop at_).length (fun i => x0 ((l.take at_ ++ M :: l.drop at_).getD i 0)) cv8):=by
                    show View _ _ _ _ _ _ _ _ _
                    rw [ins_len l M at_ hatL,← HN.out];exact V8.congr (fun i _ => ins_getD x0 l M at_ hatL i)
                  have HB8:Hid (Below w.heap.size w w8):=HBD.out.trans ((b7D.trans bw8).mono (by omega));have z8:D.heap.size ≤ w8.heap.size:=(b7D.trans bw8).size
                  have HLn:Hid ((l.take at_ ++ M :: l.drop at_).length ≤ i + 1):=by
                    show (l.take at_ ++ M :: l.drop at_).length ≤ i + 1
                    rw [ins_len l M at_ hatL,← HN.out];omega
                  clear V8 V7 bw7 bw8 b7D hHeld runv7 runv8 hUr hFr hUz hFz hAU hAF rg9 HUS HFS HRd HBD;go_wp2
                  go_roundw
                  case rel => exact ⟨i + 1,D.heap.size,l.take at_ ++ M :: l.drop at_,cv8,by omega,by go_num,by omega,z8,by rw [← HMM.out];exact HCN.out,HLn.out,HV8.out,HB8.out⟩
                  case measure => simp [intOf];omega
              · obtain ⟨A,hA⟩:∃ A,at_ = A + 1:=⟨at_ - 1,by omega⟩
                subst hA
                have hAn:A < n:=by omega
                have VD:=HVx.out.drew;obtain ⟨gO,cO',hgO⟩:=VD.form0 (by omega)
                have rgO:wx.drew.rangeAt gO (A * 9) (co A):=by rw [hgO] at VD;exact VD.range hAn
                obtain ⟨rfl,rfl⟩:ao = some ⟨gO,0,none⟩ ∧ cap = cO':=by simpa using hgO
                obtain ⟨rA,hrA⟩:∃ r,r = x0 (l.getD A 0):=⟨_,rfl⟩;have HRA:Hid (rA = x0 (l.getD A 0)):=hrA
                have q2D:wx.drew.cell? ⟨gO,A * 9 + 2,none⟩ = some (.string rA.name):=by
                  rw [hrA];obtain ⟨ao6,cap6,ao7,cap7,ao8,cap8,hce,-⟩:=Rec_rd (VD.each A hAn);exact rgO 2 _ (by rw [hce];rfl)
                have q1D:wx.drew.cell? ⟨wi.heap.size,2,none⟩ = some (.string (x0 M).name):=by
                  have:=HXx.out.cell 2;have h2:=HCE.out.2.1;exact this.trans (by simpa using h2)
                obtain ⟨t,ht⟩:∃ t,t = Op.bytesLess (x0 M).name.toList rA.name.toList:=⟨_,rfl⟩
                have HT:Hid (t = true ↔ nmL (x0 M) < nmL (x0 (l.getD A 0))):=by
                  show t = true ↔ nmL (x0 M) < nmL (x0 (l.getD A 0))
                  rw [ht,bl_eq,hrA,decide_eq_true_eq]
                clear hrA;have d1:decide (0 < A + 1) = true:=decide_eq_true (by omega);have d2:decide ((0:Int) < ((A + 1:Nat):Int)) = true:=decide_eq_true (by omega);have wP:IntKind.i64.wrap (((A + 1:Nat):Int) - 1) = (A:Int):=wrapPred (by omega)
                have wP':IntKind.i64.wrap ((A:Int) + 1 - 1) = (A:Int):=by rw [IntKind.wrap_i64];omega
                have wA:IntKind.i64.wrap (A:Int) = (A:Int):=by rw [IntKind.wrap_i64];omega
                have i3:(0:Int) ≤ (A:Int):=by omega
                have i4:(A:Int) < (n:Int):=by omega
                clear VD hgO
                go_upto_region 8 with fail
                refine wp_region_M 13 (fun w' => w'.cell? ⟨wi.heap.size,2,none⟩ = some (.string (x0 M).name) ∧ w'.cell? ⟨gO,A * 9 + 2,none⟩ = some (.string rA.name)) mixedO ⟨q1D,q2D⟩ (fun hHeld => ?_);refine wpAnyM_pure (i:=0) (oi:=_) (v:=?_) rfl (by kernel_rfl) (fun _ _ _ h => h) (Or.inl ⟨by kernel_rfl,?_⟩) (by assumption) ?_
                rotate_left
                · intro w' hSw;go_simp;try with_reducible rfl
                try simp only [Act.put,SL]
                refine wpAnyM_pure (i:=1) (oi:=_) (v:=?_) rfl (by kernel_rfl) (fun _ _ _ h => h) (Or.inl ⟨by kernel_rfl,?_⟩) (by assumption) ?_
                rotate_left
                · intro w' hSw;go_simp;try with_reducible rfl
                try simp only [Act.put,SL]
                try rw [d1]
                refine wpAnyM_pure (i:=2) (oi:=_) (v:=?_) rfl (by kernel_rfl) (fun _ _ _ h => h) (Or.inl ⟨by kernel_rfl,?_⟩) (by assumption) ?_
                rotate_left
                · intro w' hSw;go_simp;try with_reducible rfl
                try simp only [Act.put,SL]
                refine wpAnyM_pure (i:=3) (oi:=_) (v:=?_) rfl (by kernel_rfl) (fun _ _ _ h => h) (Or.inl ⟨by kernel_rfl,?_⟩) (by assumption) ?_
                rotate_left
                · intro w' hSw;go_simp;try with_reducible rfl
                try simp only [Act.put,SL]
                refine wpAnyM_takeN (i:=4) (oi:=_) (v:=?_) rfl (by kernel_rfl) (fun _ _ _ h => h) (Or.inl ⟨by kernel_rfl,?_⟩) (by assumption) ?_
                rotate_left
                · intro w' hSw
                  try dsimp only at hSw
                  obtain ⟨q1,q2⟩:=hSw;go_simp
                  try with_reducible rfl
                try simp only [Act.put,SL]
                refine wpAnyM_pure (i:=5) (oi:=_) (v:=?_) rfl (by kernel_rfl) (fun _ _ _ h => h) (Or.inl ⟨by kernel_rfl,?_⟩) (by assumption) ?_
                rotate_left
                · intro w' hSw;go_simp;try with_reducible rfl
                try simp only [Act.put,SL]
                refine wpAnyM_pure (i:=6) (oi:=_) (v:=?_) rfl (by kernel_rfl) (fun _ _ _ h => h) (Or.inl ⟨by kernel_rfl,?_⟩) (by assumption) ?_
                rotate_left
                · intro w' hSw;go_simp;try with_reducible rfl
                try simp only [Act.put,SL]
                refine wpAnyM_pure (i:=7) (oi:=_) (v:=?_) rfl (by kernel_rfl) (fun _ _ _ h => h) (Or.inl ⟨by kernel_rfl,?_⟩) (by assumption) ?_
                rotate_left
                · intro w' hSw;go_simp;try with_reducible rfl
                try simp only [Act.put,SL]
                refine wpAnyM_pure (i:=8) (oi:=_) (v:=?_) rfl (by kernel_rfl) (fun _ _ _ h => h) (Or.inl ⟨by kernel_rfl,?_⟩) (by assumption) ?_
                rotate_left
                · intro w' hSw;go_simp;try with_reducible rfl
                try simp only [Act.put,SL]
                refine wpAnyM_pure (i:=9) (oi:=_) (v:=?_) rfl (by kernel_rfl) (fun _ _ _ h => h) (Or.inl ⟨by kernel_rfl,?_⟩) (by assumption) ?_
                rotate_left
                · intro w' hSw;go_simp;try with_reducible rfl
                try simp only [Act.put,SL]
                refine wpAnyM_takeN (i:=10) (oi:=_) (v:=?_) rfl (by kernel_rfl) (fun _ _ _ h => h) (Or.inl ⟨by kernel_rfl,?_⟩) (by assumption) ?_
                rotate_left
                · intro w' hSw
                  try dsimp only at hSw
                  obtain ⟨q1,q2⟩:=hSw;go_simp
                  try with_reducible rfl
                try simp only [Act.put,SL]
                refine wpAnyM_pure (i:=11) (oi:=_) (v:=?_) rfl (by kernel_rfl) (fun _ _ _ h => h) (Or.inl ⟨by kernel_rfl,?_⟩) (by assumption) ?_
                rotate_left
                · intro w' hSw;go_simp;try with_reducible rfl
                try simp only [Act.put,SL]
                refine wpAnyM_pure (i:=12) (oi:=_) (v:=?_) rfl (by kernel_rfl) (fun _ _ _ h => h) (Or.inl ⟨by kernel_rfl,?_⟩) (by assumption) ?_
                rotate_left
                · intro w' hSw;go_simp;try with_reducible rfl
                try simp only [Act.put,SL]
                refine wpAnyM_done (by kernel_rfl) ?_ _;rw [← ht];obtain ⟨w9,hw9⟩:∃ x,x = wx.drew:=⟨_,rfl⟩;rw [← hw9] at bD ⊢;have b9:Below wx.heap.size wx w9:=bD;clear bD hw9 hHeld d1 d2 rgO q1D q2D ht
                cases t with
                | true =>
                  go_wp2
                  go_roundw
                  case rel => exact ⟨A,by omega,by go_num,fun k h1 h2 => by
                                by_cases c:k = A
                                · rw [c];exact HT.out.1 (by simp)
                                · exact HBE.out k (by omega) h2,HB5x.out.trans (b9.mono zx)⟩
                  case measure => simp [intOf]
                | false =>
                  have HS:Hid (A + 1 = 0 ∨ ¬ nmL (x0 M) < nmL (x0 (l.getD (A + 1 - 1) 0))):=.inr (fun h => absurd (HT.out.2 h) (by simp));obtain ⟨at_,hate⟩:∃ a,a = A + 1:=⟨_,rfl⟩;rw [← hate] at HS HBE hat ⊢;clear hate HT wP wP' wA hat0;have z9:wx.heap.size ≤ w9.heap.size:=b9.size;have V9:=(HVx.out.below b9 (by omega)).drew;have b9':Below wx.heap.size wx w9.drew:=b9.trans (show Below wx.heap.size w9 w9.drew from ⟨rfl,rfl,rfl,Nat.le_refl _,fun _ _ => rfl⟩);have X9:Box w9.drew wi.heap.size cR.toArray 66:=HXx.out.below b9' (by omega);have R9:layRec.rd w9.drew hi (x0 M) cR:=layRec.rd_below HRx.out b9' (by omega);have B9:Below w.heap.size w w9.drew:=HBx.out.trans (b9'.mono (by omega))
                  have rg9:w9.drew.rangeAt wi.heap.size 0 cR:=fun j v hv => by
                    have:=(X9.cell j).trans (by simpa using hv);rw [Nat.zero_add];exact this
                  obtain ⟨D,hD⟩:∃ D,D = w9.drew:=⟨_,rfl⟩;have HD:Hid (D = w9.drew):=hD;rw [← hD] at V9 X9 R9 B9 rg9
                  have zD:w9.heap.size = D.heap.size:=by rw [hD];rfl
                  clear hD b9 b9';obtain ⟨aU,cU,hUr,sU,hUz⟩:=V9.upto_ (show hi ≤ D.heap.size by omega) (al:=at_) hat;obtain ⟨aF,cF,hFr,sF,rF,hFz⟩:=V9.from_ (show hi ≤ D.heap.size by omega) (al:=at_) hat
                  have hAU:∀ b off,aU = some ⟨b,off,none⟩ → b < D.heap.size:=fun b off e => by
                    rcases V9.form2 with ⟨e3,e4⟩ | ⟨g,cp,e3,e4,hg⟩
                    · have hz:at_ = 0:=by omega
                      have:=hUr D;rw [e3,hz,run_upto0 D] at this
                      simp only [Result.ok.injEq,Value.slice.injEq,and_true] at this
                      rw [← this.1] at e
                      cases e
                    · have:=hUr D
                      rw [e3,run_upto9 g n cp at_ hat e4 D] at this
                      simp only [Result.ok.injEq,Value.slice.injEq,and_true] at this
                      rw [← this.1] at e
                      cases e
                      exact hg
                  have hAF:∀ b off,aF = some ⟨b,off,none⟩ → b < D.heap.size:=fun b off e => by
                    rcases V9.form2 with ⟨e3,e4⟩ | ⟨g,cp,e3,e4,hg⟩
                    · have hz:at_ = 0:=by omega
                      have:=hFr D;rw [e3,hz,run_from0 D] at this
                      simp only [Result.ok.injEq,Value.slice.injEq,and_true] at this
                      rw [← this.1] at e
                      cases e
                    · have:=hFr D
                      rw [e3,run_from9 g n cp at_ hat D] at this
                      simp only [Result.ok.injEq,Value.slice.injEq,and_true] at this
                      rw [← this.1] at e
                      split at e <;> cases e <;> exact hg
                  have hiD:hi ≤ D.heap.size:=by omega
                  have hpD:wi.heap.size < D.heap.size:=X9.lt
                  have hatL:at_ ≤ l.length:=by rw [← HN.out];exact hat
                  have HCN:Hid (LiveK x0 N (M + 1) (l.take at_ ++ M :: l.drop at_)):=HLK.out.ins HF.out at_ hatL (fun k h1 h2 => HBE.out k h1 (by rw [HN.out];exact h2)) HS.out;have HRd:Hid (layRec.rd D hi (x0 M) cR):=R9;have HBD:Hid (Below w.heap.size w D):=B9;have HUS:Hid (Src layRec D hi aU at_ (fun i => x0 (l.getD i 0)) co):=sU;have HFS:Hid (Src layRec D hi aF (n - at_) (fun j => x0 (l.getD (at_ + j) 0)) (fun j => co (at_ + j))):=sF;clear V9 X9 R9 B9 sU sF rF
                  go_upto_region 10 with fail
                  refine wp_region_M 7 (fun w' => w'.rangeAt wi.heap.size 0 cR) mixedO (by rw [← HD.out];exact rg9) (fun hHeld => ?_);rw [← HD.out] at hHeld ⊢;refine wpAnyM_pure (i:=1) (oi:=_) (v:=?_) rfl (by kernel_rfl) (fun _ _ _ h => h) (Or.inl ⟨by kernel_rfl,?_⟩) (by assumption) ?_
                  rotate_left
                  · intro w' hSw;go_simp;try with_reducible rfl
                  try simp only [Act.put,SL]
                  refine wpAnyM_pure (i:=2) (oi:=_) (v:=?_) rfl (by kernel_rfl) (fun _ _ _ h => h) (Or.inl ⟨by kernel_rfl,?_⟩) (by assumption) ?_
                  rotate_left
                  · intro w' hSw;go_simp;try with_reducible rfl
                  try simp only [Act.put,SL]
                  refine wpAnyM_pure (i:=3) (oi:=_) (v:=?_) rfl (by kernel_rfl) (fun _ _ _ h => h) (Or.inl ⟨by kernel_rfl,?_⟩) (by assumption) ?_
                  rotate_left
                  · intro w' hSw
                    try rw [show (Instr.slice 54 (.slice (some ⟨gO,0,none⟩) n cap) none (some (.int .i64 (at_:Int))) none).run Tryz.prog w' = _ from hUr w']
                    have hSl':=hUr w';go_simp
                    try with_reducible rfl
                  try simp only [Act.put,SL]
                  refine wpAnyM_take (i:=5) (oi:=_) (v:=.agg cR.toArray) 16 rfl (by kernel_rfl) (fun _ _ _ h => h) (yieldsIf_load_mid (by kernel_rfl) 66 (.tmp 5) rfl wi.heap.size (0) (by simp [Act.eval,Act.put]) cR _ (fun w h => h) Tryz.underlying66 rfl (info_Rec9 hcR)) (by assumption) ?_
                  try simp only [Act.put,SL]
                  refine wpAnyM_pure (i:=8) (oi:=_) (v:=?_) rfl (by kernel_rfl) (fun _ _ _ h => h) (Or.inl ⟨by kernel_rfl,?_⟩) (by assumption) ?_
                  rotate_left
                  · intro w' hSw;go_simp;try with_reducible rfl
                  try simp only [Act.put,SL]
                  refine wpAnyM_pure (i:=9) (oi:=_) (v:=?_) rfl (by kernel_rfl) (fun _ _ _ h => h) (Or.inl ⟨by kernel_rfl,?_⟩) (by assumption) ?_
                  rotate_left
                  · intro w' hSw;go_simp;try with_reducible rfl
                  try simp only [Act.put,SL]
                  refine wpAnyM_pure (i:=10) (oi:=_) (v:=?_) rfl (by kernel_rfl) (fun _ _ _ h => h) (Or.inl ⟨by kernel_rfl,?_⟩) (by assumption) ?_
                  rotate_left
                  · intro w' hSw
                    try rw [show (Instr.slice 54 (.slice (some ⟨gO,0,none⟩) n cap) (some (.int .i64 (at_:Int))) none none).run Tryz.prog w' = _ from hFr w']
                    have hSl':=hFr w';go_simp
                    try with_reducible rfl
                  try simp only [Act.put,SL]
                  refine wpAnyM_twoS (i:=0) (j:=6) (o:=_) (o':=_) rfl rfl (by kernel_rfl) (fun KC hKC => ?_) (fun KC hKC => ?_)
                  · refine step_build0 rfl rfl ?_
                    have bA:Below D.heap.size D (D.alloc (.cells #[] 66)):=(Below.refl _ _).alloc (Nat.le_refl _) _;refine hKC _ _ (range_below rg9 bA hpD) ?_;clear hKC KC
                    try simp only [Act.put,SL]
                    have VL:=View.lit0 (E:=layRec) (t:=66) (fun i => x0 (l.getD i 0)) co D hi;have zA1:D.heap.size < (D.alloc (.cells #[] 66)).heap.size:=(box_new D #[] 66).lt;obtain ⟨D1,hD1⟩:∃ x,x = D.alloc (.cells #[] 66):=⟨_,rfl⟩;rw [← hD1] at bA VL zA1 ⊢;clear hD1;refine wpAnyM_twoS (i:=4) (j:=6) (o:=_) (o':=_) rfl rfl (by kernel_rfl) (fun KC hKC => ?_) (fun KC hKC => ?_)
                    · skip
                      obtain ⟨v4,w4,cv4,runv4,V4,bw4⟩:=ins_up (lo:=lo) HUS.out hUz hAU bA hiD (by omega) VL;refine step_run2 rfl (.tmp 51) (.tmp 54) rfl (by simp [Act.eval,Act.put]) (by simp [Act.eval,Act.put]) runv4 ?_;have b4D:=bA.trans bw4;refine hKC _ _ (range_below rg9 b4D hpD) ?_;clear hKC KC
                      try simp only [Act.put,SL]
                      refine wpAnyM_oneS (i:=6) (o:=_) rfl (by kernel_rfl) (fun KC hKC => ?_);refine step_build1R rfl (.tmp 56) rfl HRd.out (by simp [Act.eval,Act.put]) ?_;have b6:Below w4.heap.size w4 (w4.alloc (.cells cR.toArray 66)):=(Below.refl _ _).alloc (Nat.le_refl _) _;have b6D:=b4D.trans (b6.mono b4D.size);refine hKC _ _ (range_below rg9 b6D hpD) ?_;clear hKC KC
                      try simp only [Act.put,SL]
                      have V6:=V4.below b6 (by have:=b4D.size;omega);have X6:Box (w4.alloc (.cells cR.toArray 66)) w4.heap.size cR.toArray 66:=box_new _ _ _;obtain ⟨v7,w7,cv7,runv7,V7,bw7⟩:=ins_one b6D hiD (by omega) V6 X6 (layRec.rd_below HRd.out b6D hiD);refine wpAnyM_one (i:=7) (o:=_) rfl (by kernel_rfl) (by kernel_rfl) (fun KC hKC => ?_);refine step_run2 rfl (.tmp 55) (.tmp 57) rfl (by simp [Act.eval,Act.put]) (by simp [Act.eval,Act.put]) runv7 ?_;refine hKC _ _ ?_;clear hKC KC
                      try simp only [Act.put,SL]
                      have b7D:=b6D.trans bw7;obtain ⟨v8,w8,cv8,runv8,V8,bw8⟩:=ins_rest HFS.out hFz hAF b7D hiD (by omega) V7;refine wpAnyM_one (i:=11) (o:=_) rfl (by kernel_rfl) (by kernel_rfl) (fun KC hKC => ?_);refine step_run2 rfl (.tmp 58) (.tmp 61) rfl (by simp [Act.eval,Act.put]) (by simp [Act.eval,Act.put]) runv8 ?_;refine hKC _ _ ?_;clear hKC KC
                      try simp only [Act.put,SL]
                      refine wpAnyM_pureL (i:=12) (oi:=_) (v:=?_) rfl (by kernel_rfl) (fun _ _ _ h => h) (Or.inl ⟨by kernel_rfl,?_⟩) ?_
                      rotate_left
                      · intro w' hSw;go_simp;try with_reducible rfl
                      try simp only [Act.put,SL]
                      refine wpAnyM_done (by kernel_rfl) ?_ _
                      have HV8:Hid (View layRec 66 w8 D.heap.size hi v8 (l.take at_ ++ M :: l.drop at_).length (fun i => x0 ((l.take at_ ++ M :: l.drop at_).getD i 0)) cv8):=by
                        show View _ _ _ _ _ _ _ _ _
                        rw [ins_len l M at_ hatL,← HN.out];exact V8.congr (fun i _ => ins_getD x0 l M at_ hatL i)
                      have HB8:Hid (Below w.heap.size w w8):=HBD.out.trans ((b7D.trans bw8).mono (by omega));have z8:D.heap.size ≤ w8.heap.size:=(b7D.trans bw8).size
                      have HLn:Hid ((l.take at_ ++ M :: l.drop at_).length ≤ i + 1):=by
                        show (l.take at_ ++ M :: l.drop at_).length ≤ i + 1
                        rw [ins_len l M at_ hatL,← HN.out];omega
                      clear V8 V7 bw7 bw8 b7D hHeld runv7 runv8 hUr hFr hUz hFz hAU hAF rg9 HUS HFS HRd HBD;go_wp2
                      go_roundw
                      case rel => exact ⟨i + 1,D.heap.size,l.take at_ ++ M :: l.drop at_,cv8,by omega,by go_num,by omega,z8,by rw [← HMM.out];exact HCN.out,HLn.out,HV8.out,HB8.out⟩
                      case measure => simp [intOf];omega
                    · refine step_build1R rfl (.tmp 56) rfl HRd.out (by simp [Act.eval,Act.put]) ?_
                      have b6:Below D1.heap.size D1 (D1.alloc (.cells cR.toArray 66)):=(Below.refl _ _).alloc (Nat.le_refl _) _;have b6D:=bA.trans (b6.mono bA.size);refine hKC _ _ (range_below rg9 b6D hpD) ?_;clear hKC KC
                      try simp only [Act.put,SL]
                      have VL6:=VL.below b6 (by have:=bA.size;omega);have X6:Box (D1.alloc (.cells cR.toArray 66)) D1.heap.size cR.toArray 66:=box_new _ _ _;have z6:D1.heap.size < (D1.alloc (.cells cR.toArray 66)).heap.size:=X6.lt;have zA:=bA.size;obtain ⟨D2,hD2⟩:∃ x,x = D1.alloc (.cells cR.toArray 66):=⟨_,rfl⟩;rw [← hD2] at b6 b6D VL6 X6 z6 ⊢;clear hD2;have XK:=X6;obtain ⟨v4,w4,cv4,runv4,⟨V4,X4⟩,bw4⟩:=ins_up4 HUS.out hUz hAU b6D hiD (by omega) VL6 X6 (fun h => by simp [Value.ownBlock] at h;omega);refine wpAnyM_oneS (i:=4) (o:=_) rfl (by kernel_rfl) (fun KC hKC => ?_);refine step_run2 rfl (.tmp 51) (.tmp 54) rfl (by simp [Act.eval,Act.put]) (by simp [Act.eval,Act.put]) runv4 ?_;have b4D:=b6D.trans bw4;refine hKC _ _ (range_below rg9 b4D hpD) ?_;clear hKC KC
                      try simp only [Act.put,SL]
                      obtain ⟨v7,w7,cv7,runv7,V7,bw7⟩:=ins_one b4D hiD (by omega) V4 X4 (layRec.rd_below HRd.out b4D hiD);refine wpAnyM_one (i:=7) (o:=_) rfl (by kernel_rfl) (by kernel_rfl) (fun KC hKC => ?_);refine step_run2 rfl (.tmp 55) (.tmp 57) rfl (by simp [Act.eval,Act.put]) (by simp [Act.eval,Act.put]) runv7 ?_;refine hKC _ _ ?_;clear hKC KC
                      try simp only [Act.put,SL]
                      have b7D:=b4D.trans bw7;obtain ⟨v8,w8,cv8,runv8,V8,bw8⟩:=ins_rest HFS.out hFz hAF b7D hiD (by omega) V7;refine wpAnyM_one (i:=11) (o:=_) rfl (by kernel_rfl) (by kernel_rfl) (fun KC hKC => ?_);refine step_run2 rfl (.tmp 58) (.tmp 61) rfl (by simp [Act.eval,Act.put]) (by simp [Act.eval,Act.put]) runv8 ?_;refine hKC _ _ ?_;clear hKC KC
                      try simp only [Act.put,SL]
                      refine wpAnyM_pureL (i:=12) (oi:=_) (v:=?_) rfl (by kernel_rfl) (fun _ _ _ h => h) (Or.inl ⟨by kernel_rfl,?_⟩) ?_
                      rotate_left
                      · intro w' hSw;go_simp;try with_reducible rfl
                      try simp only [Act.put,SL]
                      refine wpAnyM_done (by kernel_rfl) ?_ _
                      have HV8:Hid (View layRec 66 w8 D.heap.size hi v8 (l.take at_ ++ M :: l.drop at_).length (fun i => x0 ((l.take at_ ++ M :: l.drop at_).getD i 0)) cv8):=by
                        show View _ _ _ _ _ _ _ _ _
                        rw [ins_len l M at_ hatL,← HN.out];exact V8.congr (fun i _ => ins_getD x0 l M at_ hatL i)
                      have HB8:Hid (Below w.heap.size w w8):=HBD.out.trans ((b7D.trans bw8).mono (by omega));have z8:D.heap.size ≤ w8.heap.size:=(b7D.trans bw8).size
                      have HLn:Hid ((l.take at_ ++ M :: l.drop at_).length ≤ i + 1):=by
                        show (l.take at_ ++ M :: l.drop at_).length ≤ i + 1
                        rw [ins_len l M at_ hatL,← HN.out];omega
                      clear V8 V7 bw7 bw8 b7D hHeld runv7 runv8 hUr hFr hUz hFz hAU hAF rg9 HUS HFS HRd HBD;go_wp2
                      go_roundw
                      case rel => exact ⟨i + 1,D.heap.size,l.take at_ ++ M :: l.drop at_,cv8,by omega,by go_num,by omega,z8,by rw [← HMM.out];exact HCN.out,HLn.out,HV8.out,HB8.out⟩
                      case measure => simp [intOf];omega
                  · refine step_build1R rfl (.tmp 56) rfl HRd.out (by simp [Act.eval,Act.put]) ?_
                    have bA:Below D.heap.size D (D.alloc (.cells cR.toArray 66)):=(Below.refl _ _).alloc (Nat.le_refl _) _;refine hKC _ _ (range_below rg9 bA hpD) ?_;clear hKC KC
                    try simp only [Act.put,SL]
                    have XA:Box (D.alloc (.cells cR.toArray 66)) D.heap.size cR.toArray 66:=box_new _ _ _;have zA:D.heap.size < (D.alloc (.cells cR.toArray 66)).heap.size:=XA.lt;obtain ⟨D1,hD1⟩:∃ x,x = D.alloc (.cells cR.toArray 66):=⟨_,rfl⟩;rw [← hD1] at bA XA zA ⊢;clear hD1;refine wpAnyM_oneS (i:=0) (o:=_) rfl (by kernel_rfl) (fun KC hKC => ?_);refine step_build0 rfl rfl ?_;have b6:Below D1.heap.size D1 (D1.alloc (.cells #[] 66)):=(Below.refl _ _).alloc (Nat.le_refl _) _;have b6D:=bA.trans (b6.mono bA.size);refine hKC _ _ (range_below rg9 b6D hpD) ?_;clear hKC KC
                    try simp only [Act.put,SL]
                    have VL:=(View.lit0 (E:=layRec) (t:=66) (fun i => x0 (l.getD i 0)) co D1 hi).weakL (lo':=D.heap.size) (by omega);have X6:=XA.below b6 zA;obtain ⟨D2,hD2⟩:∃ x,x = D1.alloc (.cells #[] 66):=⟨_,rfl⟩;rw [← hD2] at b6 b6D VL X6 ⊢;clear hD2;obtain ⟨v4,w4,cv4,runv4,⟨V4,X4⟩,bw4⟩:=ins_up4 HUS.out hUz hAU b6D hiD (by omega) VL X6 (fun h => by simp [Value.ownBlock] at h;omega);refine wpAnyM_oneS (i:=4) (o:=_) rfl (by kernel_rfl) (fun KC hKC => ?_);refine step_run2 rfl (.tmp 51) (.tmp 54) rfl (by simp [Act.eval,Act.put]) (by simp [Act.eval,Act.put]) runv4 ?_;have b4D:=b6D.trans bw4;refine hKC _ _ (range_below rg9 b4D hpD) ?_;clear hKC KC
                    try simp only [Act.put,SL]
                    obtain ⟨v7,w7,cv7,runv7,V7,bw7⟩:=ins_one b4D hiD (by omega) V4 X4 (layRec.rd_below HRd.out b4D hiD);refine wpAnyM_one (i:=7) (o:=_) rfl (by kernel_rfl) (by kernel_rfl) (fun KC hKC => ?_);refine step_run2 rfl (.tmp 55) (.tmp 57) rfl (by simp [Act.eval,Act.put]) (by simp [Act.eval,Act.put]) runv7 ?_;refine hKC _ _ ?_;clear hKC KC
                    try simp only [Act.put,SL]
                    have b7D:=b4D.trans bw7;obtain ⟨v8,w8,cv8,runv8,V8,bw8⟩:=ins_rest HFS.out hFz hAF b7D hiD (by omega) V7;refine wpAnyM_one (i:=11) (o:=_) rfl (by kernel_rfl) (by kernel_rfl) (fun KC hKC => ?_);refine step_run2 rfl (.tmp 58) (.tmp 61) rfl (by simp [Act.eval,Act.put]) (by simp [Act.eval,Act.put]) runv8 ?_;refine hKC _ _ ?_;clear hKC KC
                    try simp only [Act.put,SL]
                    refine wpAnyM_pureL (i:=12) (oi:=_) (v:=?_) rfl (by kernel_rfl) (fun _ _ _ h => h) (Or.inl ⟨by kernel_rfl,?_⟩) ?_
                    rotate_left
                    · intro w' hSw;go_simp;try with_reducible rfl
                    try simp only [Act.put,SL]
                    refine wpAnyM_done (by kernel_rfl) ?_ _
                    have HV8:Hid (View layRec 66 w8 D.heap.size hi v8 (l.take at_ ++ M :: l.drop at_).length (fun i => x0 ((l.take at_ ++ M :: l.drop at_).getD i 0)) cv8):=by
                      show View _ _ _ _ _ _ _ _ _
                      rw [ins_len l M at_ hatL,← HN.out];exact V8.congr (fun i _ => ins_getD x0 l M at_ hatL i)
                    have HB8:Hid (Below w.heap.size w w8):=HBD.out.trans ((b7D.trans bw8).mono (by omega));have z8:D.heap.size ≤ w8.heap.size:=(b7D.trans bw8).size
                    have HLn:Hid ((l.take at_ ++ M :: l.drop at_).length ≤ i + 1):=by
                      show (l.take at_ ++ M :: l.drop at_).length ≤ i + 1
                      rw [ins_len l M at_ hatL,← HN.out];omega
                    clear V8 V7 bw7 bw8 b7D hHeld runv7 runv8 hUr hFr hUz hFz hAU hAF rg9 HUS HFS HRd HBD;go_wp2
                    go_roundw
                    case rel => exact ⟨i + 1,D.heap.size,l.take at_ ++ M :: l.drop at_,cv8,by omega,by go_num,by omega,z8,by rw [← HMM.out];exact HCN.out,HLn.out,HV8.out,HB8.out⟩
                    case measure => simp [intOf];omega
        · obtain rfl:i = N:=by omega
          clear hrs hlt2;have HLV:Hid (Live x0 i l):=HLK.out.done;go_wp2;go_ret;exact ⟨_,l,co,lo,rfl,HLV.out,hlo,by rw [← HN.out];exact HV.out,HBW.out⟩
end Go.Proofs.YtfoidpcoiankoaaGreat
namespace Go.Proofs.YtfoidpcoiankoaaGreat
open Go.RowKit F256
end Go.Proofs.YtfoidpcoiankoaaGreat
namespace Go.Proofs.YtfoidpcoiankoaaGreat
def pickI (p:Nat → Bool) (n:Nat):List Nat:=(List.range n).filter p
theorem pick_succ (p:Nat → Bool) (n:Nat):pickI p (n + 1) = pickI p n ++ (if p n then [n] else []):=by
  unfold pickI;rw [List.range_succ,List.filter_append]
  cases h:p n <;> simp [h]
theorem pick_lt {p:Nat → Bool} {n i:Nat} (h:i ∈ pickI p n):i < n:=by
  unfold pickI at h;exact List.mem_range.1 (List.mem_filter.1 h).1
theorem pick_le (p:Nat → Bool) (n:Nat):(pickI p n).length ≤ n:=by
  have:=List.length_filter_le p (List.range n);unfold pickI
  simpa using this
def pickF (p:Nat → Bool) (n:Nat):Nat → Nat:=fun m => (pickI p n).getD m 0
theorem pickF_mem {p:Nat → Bool} {n m:Nat} (h:m < (pickI p n).length):pickF p n m ∈ pickI p n:=by
  unfold pickF;rw [List.getD_eq_getElem?_getD,List.getElem?_eq_getElem h];exact List.getElem_mem h
theorem pickF_lt {p:Nat → Bool} {n m:Nat} (h:m < (pickI p n).length):pickF p n m < n:=pick_lt (pickF_mem h)
theorem pickF_more {p:Nat → Bool} {n m:Nat} (h:m < (pickI p n).length):pickF p (n + 1) m = pickF p n m:=by
  unfold pickF;rw [pick_succ,List.getD_eq_getElem?_getD,List.getD_eq_getElem?_getD,List.getElem?_append_left h]
theorem pickF_last {p:Nat → Bool} {n:Nat} (h:p n = true):pickF p (n + 1) (pickI p n).length = n:=by
  unfold pickF;rw [pick_succ,List.getD_eq_getElem?_getD,List.getElem?_append_right (Nat.le_refl _),Nat.sub_self,if_pos h];rfl
theorem pick_skip {p:Nat → Bool} {n:Nat} (h:p n = false):pickI p (n + 1) = pickI p n:=by rw [pick_succ,if_neg (by simp [h])];simp
end Go.Proofs.YtfoidpcoiankoaaGreat
namespace Go.Proofs.YtfoidpcoiankoaaGreat
open Go.RowKit F256
structure RecsResultD where
  code:Int
  recs:Nat × (Nat → RecD)
structure BytesResultD where
  code:Int
  bytes:Nat × (Nat → Nat)
structure IntsResultD where
  code:Int
  list:Nat × (Nat → Int)
def layIntsResult:Lay IntsResultD:=(layI.two layInts).as fun d => (d.code,d.list)
theorem IntsResult_rd {w:World} {hi:Nat} {d:IntsResultD} {cs:List Value} (h:layIntsResult.rd w hi d cs):∃ ao1 cap1,cs = [.int .i64 d.code,.slice ao1 d.list.1 cap1] ∧ layInts.rd w hi d.list [.slice ao1 d.list.1 cap1] ∧ (-9223372036854775808 ≤ d.code ∧ d.code ≤ 9223372036854775807):=by
  obtain ⟨c0,r0,rfl,h0,h1⟩:=h;obtain ⟨rfl,k0⟩:=h0;obtain ⟨ao1,cap1,rfl⟩:=ints_form h1;exact ⟨ao1,cap1,rfl,h1,k0⟩
theorem IntsResult_own {w:World} {d:IntsResultD} {cs:List Value} {L:List Nat} (h:layIntsResult.own w d cs L):∃ ao1 cap1 K1,cs = [.int .i64 d.code,.slice ao1 d.list.1 cap1] ∧ L = K1 ∧ layInts.own w d.list [.slice ao1 d.list.1 cap1] K1 ∧ (-9223372036854775808 ≤ d.code ∧ d.code ≤ 9223372036854775807):=by
  obtain ⟨c0,r0,L0,M0,rfl,rfl,h0,h1⟩:=h;obtain ⟨rfl,k0,rfl⟩:=h0;obtain ⟨ao1,cap1,rfl⟩:=ints_formO h1;exact ⟨ao1,cap1,_,rfl,rfl,h1,k0⟩
theorem IntsResult_mk {w:World} (d:IntsResultD) {ao1:Option Addr} {cap1:Nat} {K1:List Nat} (h1:layInts.own w d.list [.slice ao1 d.list.1 cap1] K1) (k0:(-9223372036854775808 ≤ d.code ∧ d.code ≤ 9223372036854775807)):layIntsResult.own w d [.int .i64 d.code,.slice ao1 d.list.1 cap1] (K1):=⟨_,_,[],K1,rfl,rfl,⟨rfl,k0,rfl⟩,h1⟩
def cvIntsResultD (d:IntsResultD):Nat:=lenD d.list
def mkvIntsResultD (j:Nat) (d:IntsResultD):IntsResultD:=⟨d.code,mkInts (j) d.list⟩
structure GroupsResultD where
  code:Int
  groups:Nat × (Nat → Int)
end Go.Proofs.YtfoidpcoiankoaaGreat
namespace Go.Proofs.YtfoidpcoiankoaaGreat
open Go.RowKit F256
set_option maxHeartbeats 1000000 in
theorem index_any (v:Value) (n:Nat) (g:Nat → Int) (hi:Nat) (x:Int) (w:World) (r:RdI w hi v n g) :
    Calls Tryz.prog 106 #[v,.int .i64 x] w fun e w' => ∃ z:Int,e = .returned (.int .i64 z) ∧ (0 ≤ z ↔ ∃ t,t < n ∧ g t = x) ∧ w' = w:=by
  obtain ⟨ao,cap,rfl,hm,hc⟩:=r;unfold maxLen at hm
  go_enter Tryz.func106,Tryz.ntmps106
  go_wp2
  go_loop [8] (fun i => ∃ k:Nat,k ≤ n ∧ i = .int .i64 k ∧ ∀ i,i < k → g i ≠ x) (fun i => n - (intOf i).toNat)
  case atStart => exact ⟨0,Nat.zero_le _,rfl,fun i hi => by omega⟩
  case round =>
    obtain ⟨k,hk,rfl,hall⟩:=hrel;have HALL:Hid (∀ i,i < k → g i ≠ x):=hall;clear hall
    by_cases hlt:k < n
    · obtain ⟨b,off,rfl,hblt,hcell⟩:=hc (by omega)
      have hck:w.cell? ⟨b,off + k,none⟩ = some (.int .i64 (g k)):=hcell k hlt;obtain ⟨y,hy⟩:∃ y,y = g k:=⟨_,rfl⟩;have HY:Hid (y = g k):=hy;rw [← hy] at hck;clear hc hcell hy
      by_cases heq:x = y
      · have HP:Hid (0 ≤ (k:Int) ↔ ∃ t,t < n ∧ g t = x):=⟨fun _ => ⟨k,hlt,by rw [← HY.out,heq]⟩,fun _ => by omega⟩
        have te:(x == y) = true:=by simp [heq]
        clear heq;go_wp2;go_ret;exact ⟨_,rfl,HP.out,rfl⟩
      · have te:(x == y) = false:=by simp [heq]
        have HN:Hid (g k ≠ x):=by show g k ≠ x;rw [← HY.out];exact fun h => heq h.symm
        clear heq;go_wp2
        go_round
        case rel => exact ⟨k + 1,by omega,by go_num,fun i hi => by
                      by_cases c:i = k
                      · rw [c];exact HN.out
                      · exact HALL.out i (by omega)⟩
        case measure => simp [intOf];omega
    · obtain rfl:k = n:=by omega
      have HP:Hid (0 ≤ (-1:Int) ↔ ∃ t,t < k ∧ g t = x):=⟨fun h => by omega,fun ⟨t,ht,he⟩ => absurd he (HALL.out t ht)⟩;clear hc;go_wp2;go_ret;exact ⟨-1,rfl,HP.out,rfl⟩
theorem contains_any (v:Value) (n:Nat) (g:Nat → Int) (hi:Nat) (x:Int) (w:World) (r:RdI w hi v n g) :
    Calls Tryz.prog 72 #[v,.int .i64 x] w (BoolP (∃ t,t < n ∧ g t = x) w):=by
  have C:=index_any v n g hi x w r;obtain ⟨ao,cap,rfl,hm,hc⟩:=r;clear hc hm;have HI:Hid (Calls Tryz.prog 106 #[.slice ao n cap,.int .i64 x] w fun e w' => ∃ z:Int,e = .returned (.int .i64 z) ∧ (0 ≤ z ↔ ∃ t,t < n ∧ g t = x) ∧ w' = w):=C;clear C;obtain ⟨P,hP⟩:∃ P:Prop,P = ∃ t,t < n ∧ g t = x:=⟨_,rfl⟩;rw [← hP] at HI ⊢;clear hP
  go_enter Tryz.func72,Tryz.ntmps72
  go_wp2_with fail
  refine HI.out.mono ?_;rintro e w1 ⟨z,rfl,hz,hw1⟩;obtain rfl:=hw1.symm;have HZ:Hid (0 ≤ z ↔ P):=hz;clear hz HI
  by_cases h0:0 ≤ z
  · have HP:Hid P:=HZ.out.mp h0
    go_wp2;go_ret;exact boolYes rfl HP.out (Below.refl _ _)
  · have HP:Hid (¬ P):=fun h => h0 (HZ.out.mpr h)
    have td:decide (0 ≤ z) = false:=by simp;omega
    clear h0;go_wp2;go_ret;exact boolNo rfl HP.out (Below.refl _ _)
end Go.Proofs.YtfoidpcoiankoaaGreat
namespace Go.Proofs.YtfoidpcoiankoaaGreat
open Go.RowKit F256
theorem nearest_any (x a b:Int) (w:World) :
    Calls Tryz.prog 118 #[.int .i64 x,.int .i64 a,.int .i64 b] w fun e w' => e = .returned (.int .i64 (max a (min x b))) ∧ w' = w:=by
  go_enter Tryz.func118,Tryz.ntmps118
  go_wp2;go_ret;exact ⟨rfl,rfl⟩
def nearZ (x a b:Int):Int:=max a (min x b)
theorem nearZ_iff (x a b:Int) (h:a ≤ b):x = nearZ x a b ↔ a ≤ x ∧ x ≤ b:=by
  unfold nearZ;omega
theorem nearest_z (x a b:Int) (w:World) :
    Calls Tryz.prog 118 #[.int .i64 x,.int .i64 a,.int .i64 b] w fun e w' => e = .returned (.int .i64 (nearZ x a b)) ∧ w' = w:=nearest_any x a b w
set_option maxRecDepth 20000 in
set_option maxHeartbeats 8000000 in
theorem nearestShape_any (a0 a1 a2 a3 a4 a5 a6 a7 a8:Int) (w:World) :
    Calls Tryz.prog 90 #[.agg #[.int .i64 a0,.int .i64 a1,.int .i64 a2,.int .i64 a3,.int .i64 a4,.int .i64 a5,.int .i64 a6,.int .i64 a7,.int .i64 a8]] w fun e w' => e = .returned (.agg #[.int .i64 (nearZ a0 1 4),.int .i64 (nearZ a1 0 2),.int .i64 (nearZ a2 1 3),.int .i64 (nearZ a3 0 2),.int .i64 (nearZ a4 1 6),.int .i64 (nearZ a5 1 6),.int .i64 (nearZ a6 1 4),.int .i64 (nearZ a7 1 6),.int .i64 (nearZ a8 0 400)]) ∧ Below w.heap.size w w':=by
  go_enter Tryz.func90,Tryz.ntmps90
  go_wp2_with fail
  have XA:=(box_new w #[.int .i64 a0,.int .i64 a1,.int .i64 a2,.int .i64 a3,.int .i64 a4,.int .i64 a5,.int .i64 a6,.int .i64 a7,.int .i64 a8] 33).allocd (.cells #[.int .i64 0,.int .i64 0,.int .i64 0,.int .i64 0,.int .i64 0,.int .i64 0,.int .i64 0,.int .i64 0,.int .i64 0] 33);have XZ:=box_new (w.alloc (.cells #[.int .i64 a0,.int .i64 a1,.int .i64 a2,.int .i64 a3,.int .i64 a4,.int .i64 a5,.int .i64 a6,.int .i64 a7,.int .i64 a8] 33)) #[.int .i64 0,.int .i64 0,.int .i64 0,.int .i64 0,.int .i64 0,.int .i64 0,.int .i64 0,.int .i64 0,.int .i64 0] 33
  have hz:(w.alloc (.cells #[.int .i64 a0,.int .i64 a1,.int .i64 a2,.int .i64 a3,.int .i64 a4,.int .i64 a5,.int .i64 a6,.int .i64 a7,.int .i64 a8] 33)).heap.size = w.heap.size + 1:=by simp
  rw [hz] at XZ;have BA:Below w.heap.size w ((w.alloc (.cells #[.int .i64 a0,.int .i64 a1,.int .i64 a2,.int .i64 a3,.int .i64 a4,.int .i64 a5,.int .i64 a6,.int .i64 a7,.int .i64 a8] 33)).alloc (.cells #[.int .i64 0,.int .i64 0,.int .i64 0,.int .i64 0,.int .i64 0,.int .i64 0,.int .i64 0,.int .i64 0,.int .i64 0] 33)):=((Below.refl _ _).alloc (Nat.le_refl _) _).alloc (by simp) _;obtain ⟨wA,hwA⟩:∃ x,x = (w.alloc (.cells #[.int .i64 a0,.int .i64 a1,.int .i64 a2,.int .i64 a3,.int .i64 a4,.int .i64 a5,.int .i64 a6,.int .i64 a7,.int .i64 a8] 33)).alloc (.cells #[.int .i64 0,.int .i64 0,.int .i64 0,.int .i64 0,.int .i64 0,.int .i64 0,.int .i64 0,.int .i64 0,.int .i64 0] 33):=⟨_,rfl⟩;rw [← hwA] at XA XZ BA ⊢;clear hwA hz;refine wp_region_still_tail 28 (by kernel_rfl) (by kernel_rfl) ?_;have XA':Box { wA with drawn:=wA.drawn + 1 } w.heap.size #[.int .i64 a0,.int .i64 a1,.int .i64 a2,.int .i64 a3,.int .i64 a4,.int .i64 a5,.int .i64 a6,.int .i64 a7,.int .i64 a8] 33:=XA;have XZ':Box { wA with drawn:=wA.drawn + 1 } (w.heap.size + 1) #[.int .i64 0,.int .i64 0,.int .i64 0,.int .i64 0,.int .i64 0,.int .i64 0,.int .i64 0,.int .i64 0,.int .i64 0] 33:=XZ;have BA':Below w.heap.size w { wA with drawn:=wA.drawn + 1 }:=⟨BA.os,BA.tape,BA.output,BA.size,BA.block⟩;obtain ⟨wB,hwB⟩:∃ x:World,x = { wA with drawn:=wA.drawn + 1 }:=⟨_,rfl⟩;rw [← hwB] at XA' XZ' BA' ⊢;clear XA XZ BA hwB;obtain ⟨x0,x1,x2,x3,x4,x5,x6,x7,x8⟩:=box9 XA';obtain ⟨y0,y1,y2,y3,y4,y5,y6,y7,y8⟩:=box9 XZ'
  simp only [List.take_succ_cons,List.take_zero,List.drop_succ_cons,List.drop_zero]
  still_step
  still_step
  still_call (nearest_z _ _ _ _)
  still_step
  still_step
  still_call (nearest_z _ _ _ _)
  still_step
  still_step
  still_call (nearest_z _ _ _ _)
  still_step
  still_step
  still_call (nearest_z _ _ _ _)
  still_step
  still_step
  still_call (nearest_z _ _ _ _)
  still_step
  still_step
  still_call (nearest_z _ _ _ _)
  still_step
  still_step
  still_call (nearest_z _ _ _ _)
  still_step
  still_step
  still_call (nearest_z _ _ _ _)
  still_step
  still_step
  still_call (nearest_z _ _ _ _)
  still_step
  refine wpStill_nil ?_;have z0:wB.frozen? ⟨w.heap.size + 1,0,none⟩ = false:=XZ'.frozen 0;have z1:wB.frozen? ⟨w.heap.size + 1,1,none⟩ = false:=XZ'.frozen 1;have z2:wB.frozen? ⟨w.heap.size + 1,2,none⟩ = false:=XZ'.frozen 2;have z3:wB.frozen? ⟨w.heap.size + 1,3,none⟩ = false:=XZ'.frozen 3;have z4:wB.frozen? ⟨w.heap.size + 1,4,none⟩ = false:=XZ'.frozen 4;have z5:wB.frozen? ⟨w.heap.size + 1,5,none⟩ = false:=XZ'.frozen 5;have z6:wB.frozen? ⟨w.heap.size + 1,6,none⟩ = false:=XZ'.frozen 6;have z7:wB.frozen? ⟨w.heap.size + 1,7,none⟩ = false:=XZ'.frozen 7;have z8:wB.frozen? ⟨w.heap.size + 1,8,none⟩ = false:=XZ'.frozen 8;go_wp2;refine bodyPost_ret (v:=.agg #[.int .i64 (nearZ a0 1 4),.int .i64 (nearZ a1 0 2),.int .i64 (nearZ a2 1 3),.int .i64 (nearZ a3 0 2),.int .i64 (nearZ a4 1 6),.int .i64 (nearZ a5 1 6),.int .i64 (nearZ a6 1 4),.int .i64 (nearZ a7 1 6),.int .i64 (nearZ a8 0 400)]) (by simp [results,Tryz.results90,go_sem,y0,y1,y2,y3,y4,y5,y6,y7,y8]) rfl ⟨rfl,?_⟩;exact (((((((((BA'.setCell (Nat.le_succ _) _).setCell (Nat.le_succ _) _).setCell (Nat.le_succ _) _).setCell (Nat.le_succ _) _).setCell (Nat.le_succ _) _).setCell (Nat.le_succ _) _).setCell (Nat.le_succ _) _).setCell (Nat.le_succ _) _).setCell (Nat.le_succ _) _)
end Go.Proofs.YtfoidpcoiankoaaGreat
namespace Go.Proofs.YtfoidpcoiankoaaGreat
open Go.RowKit F256
theorem shape_eq_yes (a0 a1 a2 a3 a4 a5 a6 a7 a8:Int) (w:World):(Op.equalIn 10000 33 (.agg #[.int .i64 a0,.int .i64 a1,.int .i64 a2,.int .i64 a3,.int .i64 a4,.int .i64 a5,.int .i64 a6,.int .i64 a7,.int .i64 a8]) (.agg #[.int .i64 a0,.int .i64 a1,.int .i64 a2,.int .i64 a3,.int .i64 a4,.int .i64 a5,.int .i64 a6,.int .i64 a7,.int .i64 a8])).run Tryz.prog w = .ok true w:=by
  have u3:=Tryz.underlying2;rw [show (10000:Nat) = 9999 + 1 from rfl,run_equalIn_agg w 9999 33 _ _ (by kernel_rfl) (by kernel_rfl)]
  simp only [Program.fieldsOf,Tryz.underlying33]
  go_simp
theorem shape_eq_no (a0 a1 a2 a3 a4 a5 a6 a7 a8 b0 b1 b2 b3 b4 b5 b6 b7 b8:Int) (h:¬ (a0 = b0 ∧ a1 = b1 ∧ a2 = b2 ∧ a3 = b3 ∧ a4 = b4 ∧ a5 = b5 ∧ a6 = b6 ∧ a7 = b7 ∧ a8 = b8)) (w:World):(Op.equalIn 10000 33 (.agg #[.int .i64 a0,.int .i64 a1,.int .i64 a2,.int .i64 a3,.int .i64 a4,.int .i64 a5,.int .i64 a6,.int .i64 a7,.int .i64 a8]) (.agg #[.int .i64 b0,.int .i64 b1,.int .i64 b2,.int .i64 b3,.int .i64 b4,.int .i64 b5,.int .i64 b6,.int .i64 b7,.int .i64 b8])).run Tryz.prog w = .ok false w:=by
  have u3:=Tryz.underlying2;rw [show (10000:Nat) = 9999 + 1 from rfl,run_equalIn_agg w 9999 33 _ _ (by kernel_rfl) (by kernel_rfl)]
  simp only [Program.fieldsOf,Tryz.underlying33]
  have H:Hid (¬ (a0 = b0 ∧ a1 = b1 ∧ a2 = b2 ∧ a3 = b3 ∧ a4 = b4 ∧ a5 = b5 ∧ a6 = b6 ∧ a7 = b7 ∧ a8 = b8)):=h;clear h;go_simp;exact fun h0 h1 h2 h3 h4 h5 h6 h7 h8 => H.out ⟨h0,h1,h2,h3,h4,h5,h6,h7,h8⟩
theorem ok_near (s:Nat → Int):OkShape s ↔ s 0 = nearZ (s 0) 1 4 ∧ s 1 = nearZ (s 1) 0 2 ∧ s 2 = nearZ (s 2) 1 3 ∧ s 3 = nearZ (s 3) 0 2 ∧ s 4 = nearZ (s 4) 1 6 ∧ s 5 = nearZ (s 5) 1 6 ∧ s 6 = nearZ (s 6) 1 4 ∧ s 7 = nearZ (s 7) 1 6 ∧ s 8 = nearZ (s 8) 0 400:=by
  unfold OkShape Shp3 Shp;rw [nearZ_iff (s 0) 1 4 (by omega),nearZ_iff (s 1) 0 2 (by omega),nearZ_iff (s 2) 1 3 (by omega),nearZ_iff (s 3) 0 2 (by omega),nearZ_iff (s 4) 1 6 (by omega),nearZ_iff (s 5) 1 6 (by omega),nearZ_iff (s 6) 1 4 (by omega),nearZ_iff (s 7) 1 6 (by omega),nearZ_iff (s 8) 0 400 (by omega)];omega
set_option maxHeartbeats 4000000 in
theorem implShape_any (s:Nat → Int) (w:World) :
    Calls Tryz.prog 54 #[shapeV s] w fun e w' => ∃ x,e = .returned (.int .i64 x) ∧ ShFAns s x ∧ Below w.heap.size w w':=by
  have HK:Hid (OkShape s ↔ s 0 = nearZ (s 0) 1 4 ∧ s 1 = nearZ (s 1) 0 2 ∧ s 2 = nearZ (s 2) 1 3 ∧ s 3 = nearZ (s 3) 0 2 ∧ s 4 = nearZ (s 4) 1 6 ∧ s 5 = nearZ (s 5) 1 6 ∧ s 6 = nearZ (s 6) 1 4 ∧ s 7 = nearZ (s 7) 1 6 ∧ s 8 = nearZ (s 8) 0 400):=ok_near s;unfold shapeV;obtain ⟨a0,h0⟩:∃ a,a = s 0:=⟨_,rfl⟩;obtain ⟨a1,h1⟩:∃ a,a = s 1:=⟨_,rfl⟩;obtain ⟨a2,h2⟩:∃ a,a = s 2:=⟨_,rfl⟩;obtain ⟨a3,h3⟩:∃ a,a = s 3:=⟨_,rfl⟩;obtain ⟨a4,h4⟩:∃ a,a = s 4:=⟨_,rfl⟩;obtain ⟨a5,h5⟩:∃ a,a = s 5:=⟨_,rfl⟩;obtain ⟨a6,h6⟩:∃ a,a = s 6:=⟨_,rfl⟩;obtain ⟨a7,h7⟩:∃ a,a = s 7:=⟨_,rfl⟩;obtain ⟨a8,h8⟩:∃ a,a = s 8:=⟨_,rfl⟩;rw [← h0,← h1,← h2,← h3,← h4,← h5,← h6,← h7,← h8]
  have HK2:Hid (OkShape s ↔ a0 = nearZ a0 1 4 ∧ a1 = nearZ a1 0 2 ∧ a2 = nearZ a2 1 3 ∧ a3 = nearZ a3 0 2 ∧ a4 = nearZ a4 1 6 ∧ a5 = nearZ a5 1 6 ∧ a6 = nearZ a6 1 4 ∧ a7 = nearZ a7 1 6 ∧ a8 = nearZ a8 0 400):=by
    show OkShape s ↔ _
    rw [h0,h1,h2,h3,h4,h5,h6,h7,h8];exact HK.out
  clear HK h0 h1 h2 h3 h4 h5 h6 h7 h8;have CN:=nearestShape_any a0 a1 a2 a3 a4 a5 a6 a7 a8;have XA:=box_new w #[.int .i64 a0,.int .i64 a1,.int .i64 a2,.int .i64 a3,.int .i64 a4,.int .i64 a5,.int .i64 a6,.int .i64 a7,.int .i64 a8] 33;obtain ⟨x0,x1,x2,x3,x4,x5,x6,x7,x8⟩:=box9 XA;have HX:Hid (Box (w.alloc (.cells #[.int .i64 a0,.int .i64 a1,.int .i64 a2,.int .i64 a3,.int .i64 a4,.int .i64 a5,.int .i64 a6,.int .i64 a7,.int .i64 a8] 33)) w.heap.size #[.int .i64 a0,.int .i64 a1,.int .i64 a2,.int .i64 a3,.int .i64 a4,.int .i64 a5,.int .i64 a6,.int .i64 a7,.int .i64 a8] 33):=XA;have HB:Hid (Below w.heap.size w (w.alloc (.cells #[.int .i64 a0,.int .i64 a1,.int .i64 a2,.int .i64 a3,.int .i64 a4,.int .i64 a5,.int .i64 a6,.int .i64 a7,.int .i64 a8] 33))):=bnew (Below.refl _ _);obtain ⟨wA,hwA⟩:∃ x,x = w.alloc (.cells #[.int .i64 a0,.int .i64 a1,.int .i64 a2,.int .i64 a3,.int .i64 a4,.int .i64 a5,.int .i64 a6,.int .i64 a7,.int .i64 a8] 33):=⟨_,rfl⟩;rw [← hwA] at x0 x1 x2 x3 x4 x5 x6 x7 x8 HX HB;clear XA
  by_cases ok:OkShape s
  · have HO:Hid (OkShape s):=ok
    obtain ⟨e0,e1,e2,e3,e4,e5,e6,e7,e8⟩:=HK2.out.mp ok;rw [← e0,← e1,← e2,← e3,← e4,← e5,← e6,← e7,← e8] at CN;have heq:=shape_eq_yes a0 a1 a2 a3 a4 a5 a6 a7 a8;clear e0 e1 e2 e3 e4 e5 e6 e7 e8 ok
    go_enter Tryz.func54,Tryz.ntmps54
    go_wp2_with fail
    rw [← hwA];clear hwA
    go_region_with (go_at_call 90;refine (CN _).mono ?_;rintro ee w2 ⟨rfl,hb2⟩;have hB2:Below wA.heap.size wA w2:=⟨hb2.os,hb2.tape,hb2.output,hb2.size,hb2.block⟩;obtain ⟨y0,y1,y2,y3,y4,y5,y6,y7,y8⟩:=box9 (HX.out.below hB2 HX.out.lt))
    all_goals
      go_wp2;go_ret;exact ⟨0,rfl,.inr ⟨rfl,HO.out⟩,HB.out.trans (hB2.mono HB.out.size)⟩
  · have HO:Hid (¬ OkShape s):=ok
    have hno:¬ (a0 = nearZ a0 1 4 ∧ a1 = nearZ a1 0 2 ∧ a2 = nearZ a2 1 3 ∧ a3 = nearZ a3 0 2 ∧ a4 = nearZ a4 1 6 ∧ a5 = nearZ a5 1 6 ∧ a6 = nearZ a6 1 4 ∧ a7 = nearZ a7 1 6 ∧ a8 = nearZ a8 0 400):=fun h => ok (HK2.out.mpr h);have heq:=shape_eq_no a0 a1 a2 a3 a4 a5 a6 a7 a8 (nearZ a0 1 4) (nearZ a1 0 2) (nearZ a2 1 3) (nearZ a3 0 2) (nearZ a4 1 6) (nearZ a5 1 6) (nearZ a6 1 4) (nearZ a7 1 6) (nearZ a8 0 400) hno;clear hno ok
    go_enter Tryz.func54,Tryz.ntmps54
    go_wp2_with fail
    rw [← hwA];clear hwA
    go_region_with (go_at_call 90;refine (CN _).mono ?_;rintro ee w2 ⟨rfl,hb2⟩;have hB2:Below wA.heap.size wA w2:=⟨hb2.os,hb2.tape,hb2.output,hb2.size,hb2.block⟩;obtain ⟨y0,y1,y2,y3,y4,y5,y6,y7,y8⟩:=box9 (HX.out.below hB2 HX.out.lt))
    all_goals
      go_wp2;go_ret;exact ⟨3,rfl,.inl ⟨rfl,HO.out⟩,HB.out.trans (hB2.mono HB.out.size)⟩
end Go.Proofs.YtfoidpcoiankoaaGreat
namespace Go.Proofs.YtfoidpcoiankoaaGreat
open Go.RowKit F256
set_option maxHeartbeats 4000000 in
theorem rowLength_any (s:Nat → Int) (h1:1 ≤ s 2) (h2:s 2 ≤ 1000) (w:World) :
    Calls Tryz.prog 166 #[shapeV s] w fun e w' => e = .returned (.int .i64 (s 2 * 4)) ∧ Below w.heap.size w w':=by
  unfold shapeV;obtain ⟨a2,h0⟩:∃ a,a = s 2:=⟨_,rfl⟩;rw [← h0] at h1 h2 ⊢;clear h0;have B0:Below w.heap.size w (w.alloc (.cells #[.int .i64 (s 0),.int .i64 (s 1),.int .i64 a2,.int .i64 (s 3),.int .i64 (s 4),.int .i64 (s 5),.int .i64 (s 6),.int .i64 (s 7),.int .i64 (s 8)] 33)):=bnew (Below.refl _ _)
  go_enter Tryz.func166,Tryz.ntmps166
  go_wp2;go_ret;exact ⟨rfl,B0⟩
set_option maxHeartbeats 4000000 in
theorem implParts_any (s:Nat → Int) (l:Int) (w:World) :
    Calls Tryz.prog 165 #[shapeV s,.int .i64 l] w fun e w' => ∃ x c,e = .returned (intR c x) ∧ PfAns s l x c ∧ Below w.heap.size w w':=by
  unfold shapeV
  go_enter Tryz.func165,Tryz.ntmps165
  go_wp2_with fail
  refine (implShape_any s _).mono ?_;rintro e w1 ⟨x,rfl,hx,B1'⟩;obtain ⟨X1,X2,B1,z1⟩:=two_new B1';obtain ⟨x0,x1,x2,x3,x4,x5,x6,x7,x8⟩:=box9 X1;obtain ⟨y0,y1,y2,y3⟩:=res_cells X2;have HX:Hid (Box w1 (w.heap.size + 1) #[.int .i64 0,.int .i64 0] 31):=X2;have HX1:Hid (Box w1 w.heap.size #[.int .i64 (s 0),.int .i64 (s 1),.int .i64 (s 2),.int .i64 (s 3),.int .i64 (s 4),.int .i64 (s 5),.int .i64 (s 6),.int .i64 (s 7),.int .i64 (s 8)] 33):=X1;clear B1' X1 X2
  rcases hx with ⟨rfl,hx⟩ | ⟨rfl,hx⟩
  · have HN:Hid (¬ OkShape s):=hx
    clear hx;go_wp2;exact bodyPost_ret (v:=intR 3 0) (by simp [results,Tryz.results165,go_sem,intR,y0,y1]) rfl ⟨0,3,rfl,.inl ⟨HN.out,rfl,rfl⟩,(B1.setCell (Nat.le_succ _) _).setCell (Nat.le_succ _) _⟩
  · have HO:Hid (OkShape s):=hx
    have HD:Hid (1 ≤ s 2 ∧ s 2 ≤ 1000):=by show 1 ≤ s 2 ∧ s 2 ≤ 1000;have:=hx.2.1;unfold Shp at this;omega
    clear hx;have CL:=rowLength_any s HD.out.1 HD.out.2;unfold shapeV at CL;have HM:Hid (∀ m,m = (l + s 2 * 4 - 1) / (s 2 * 4) → 1 ≤ l → l ≤ 3 * (s 2 * 4) → PfAns s l m 0):=fun m hm h1 h2 => .inr (.inr (.inr ⟨HO.out,h1,h2,rfl,hm⟩));have HM2:Hid (1 ≤ l → 3 * (s 2 * 4) < l → PfAns s l 0 2):=fun h1 h2 => .inr (.inr (.inl ⟨HO.out,h1,h2,rfl,rfl⟩));obtain ⟨S,hS⟩:∃ S,S = s 2 * 4:=⟨_,rfl⟩;rw [← hS] at CL HM HM2
    have q1:4 ≤ S:=by have:=HD.out.1;omega
    have q2:S ≤ 4000:=by have:=HD.out.2;omega
    clear hS
    by_cases c1:l < 1
    · go_wp2
      exact bodyPost_ret (v:=intR 6 0) (by simp [results,Tryz.results165,go_sem,intR,y0,y1]) rfl ⟨0,6,rfl,.inr (.inl ⟨HO.out,c1,rfl,rfl⟩),(B1.setCell (Nat.le_succ _) _).setCell (Nat.le_succ _) _⟩
    · go_wp2_with fail
      refine (CL _).mono ?_;rintro e w2 ⟨rfl,B2⟩;have z2:=B2.size;have B12:Below w.heap.size w w2:=B1.trans (B2.mono B1.size);have HX2:Hid (Box w2 (w.heap.size + 1) #[.int .i64 0,.int .i64 0] 31):=HX.out.below B2 z1;have HY2:Hid (Box w2 w.heap.size #[.int .i64 (s 0),.int .i64 (s 1),.int .i64 (s 2),.int .i64 (s 3),.int .i64 (s 4),.int .i64 (s 5),.int .i64 (s 6),.int .i64 (s 7),.int .i64 (s 8)] 33):=HX1.out.below B2 (by omega);clear x0 x1 x2 x3 x4 x5 x6 x7 x8 y0 y1 y2 y3 B2 HX HX1;obtain ⟨y0,y1,y2,y3⟩:=res_cells HX2.out;obtain ⟨x0,x1,x2,x3,x4,x5,x6,x7,x8⟩:=box9 HY2.out
      by_cases c2:3 * S < l
      · have t2:decide (3 * S < l) = true:=by simp;omega
        go_wp2;exact bodyPost_ret (v:=intR 2 0) (by simp [results,Tryz.results165,go_sem,intR,y0,y1]) rfl ⟨0,2,rfl,HM2.out (by omega) c2,(B12.setCell (Nat.le_succ _) _).setCell (Nat.le_succ _) _⟩
      · have t2:decide (3 * S < l) = false:=by simp;omega
        have q3:0 ≤ l + S - 1:=by omega
        go_wp2_with fail
        have K0:Hid (Below w2.heap.size w2 w2):=Below.refl _ _
        go_region_with (go_at_call 166;refine (CL _).mono ?_;rintro ee w3 ⟨rfl,hb3⟩;(first | (have hB2:Below w2.heap.size w2 w3:=hB.trans ((⟨hb3.os,hb3.tape,hb3.output,hb3.size,hb3.block⟩:Below _ _ _).mono hB.size);clear hb3;obtain ⟨v0,v1,v2,v3⟩:=res_cells (HX2.out.below hB2 (by omega));obtain ⟨u0,u1,u2,u3,u4,u5,u6,u7,u8⟩:=box9 (HY2.out.below hB2 (by omega))) | (have hB:Below w2.heap.size w2 w3:=⟨hb3.os,hb3.tape,hb3.output,hb3.size,hb3.block⟩;clear hb3;obtain ⟨u0,u1,u2,u3,u4,u5,u6,u7,u8⟩:=box9 (HY2.out.below hB (by omega)))))
        all_goals
          have B4:Below w.heap.size w w3:=B12.trans (hB2.mono B12.size);go_wp2;exact bodyPost_ret (v:=intR 0 ((l + S - 1) / S)) (by simp [results,Tryz.results165,go_sem,intR,v0,v1]) rfl ⟨(l + S - 1) / S,0,rfl,HM.out _ rfl (by omega) (by omega),(B4.setCell (Nat.le_succ _) _).setCell (Nat.le_succ _) _⟩
end Go.Proofs.YtfoidpcoiankoaaGreat
namespace Go.Proofs.YtfoidpcoiankoaaGreat
open Go.RowKit F256
theorem inBounds_b {x a b:Int} {t:Bool} (hab:a ≤ b) (ht:t = true ↔ InP x a b) (w:World) :
    Calls Tryz.prog 61 #[.int .i64 x,.int .i64 a,.int .i64 b] w fun e w' => e = .returned (.bool t) ∧ w' = w:=by
  by_cases h1:a ≤ x
  · by_cases h2:x ≤ b
    · obtain rfl:t = true:=ht.2 ⟨h1,h2⟩
      clear ht hab
      go_enter Tryz.func61,Tryz.ntmps61
      go_wp2;go_ret;exact ⟨rfl,rfl⟩
    · obtain rfl:t = false:=by
        cases t with
        | false => rfl
        | true => exact absurd (ht.1 rfl).2 h2
      clear ht hab;have hd:decide (x ≤ b) = false:=decide_eq_false h2
      go_enter Tryz.func61,Tryz.ntmps61
      go_wp2;go_ret;exact ⟨rfl,rfl⟩
  · obtain rfl:t = false:=by
      cases t with
      | false => rfl
      | true => exact absurd (ht.1 rfl).1 h1
    clear ht hab;have hd:decide (a ≤ x) = false:=decide_eq_false h1
    go_enter Tryz.func61,Tryz.ntmps61
    go_wp2;go_ret;exact ⟨rfl,rfl⟩
theorem groupCount_any (s:Nat → Int) (h:OkShape s) (w:World) :
    Calls Tryz.prog 91 #[shapeV s] w fun e w' => e = .returned (.int .i64 (s 0 + s 1)) ∧ Below w.heap.size w w':=by
  obtain ⟨h1,h2,_⟩:=h;unfold Shp3 at h1;have B0:=(one_new w #[.int .i64 (s 0),.int .i64 (s 1),.int .i64 (s 2),.int .i64 (s 3),.int .i64 (s 4),.int .i64 (s 5),.int .i64 (s 6),.int .i64 (s 7),.int .i64 (s 8)] 33).bel;unfold shapeV
  have hw:-9223372036854775808 ≤ s 0 + s 1 ∧ s 0 + s 1 ≤ 9223372036854775807:=by omega
  go_enter Tryz.func91,Tryz.ntmps91
  go_wp2;go_ret;exact ⟨rfl,B0⟩
theorem driveCount_any (s:Nat → Int) (h:OkShape s) (w:World) :
    Calls Tryz.prog 92 #[shapeV s] w fun e w' => e = .returned (.int .i64 (s 2 + s 3)) ∧ Below w.heap.size w w':=by
  obtain ⟨h1,h2,_⟩:=h;unfold Shp at h2;have B0:=(one_new w #[.int .i64 (s 0),.int .i64 (s 1),.int .i64 (s 2),.int .i64 (s 3),.int .i64 (s 4),.int .i64 (s 5),.int .i64 (s 6),.int .i64 (s 7),.int .i64 (s 8)] 33).bel;unfold shapeV
  have hw:-9223372036854775808 ≤ s 2 + s 3 ∧ s 2 + s 3 ≤ 9223372036854775807:=by omega
  go_enter Tryz.func92,Tryz.ntmps92
  go_wp2;go_ret;exact ⟨rfl,B0⟩
theorem okB {s:Nat → Int} (h:OkShape s):1 ≤ s 0 ∧ s 0 ≤ 4 ∧ 0 ≤ s 1 ∧ s 1 ≤ 2 ∧ 1 ≤ s 2 ∧ s 2 ≤ 3 ∧ 0 ≤ s 3 ∧ s 3 ≤ 2 ∧ 1 ≤ s 4 ∧ s 4 ≤ 6 ∧ 1 ≤ s 5 ∧ s 5 ≤ 6:=by
  obtain ⟨h1,h2,h3,h4,_⟩:=h;unfold Shp3 at h1;unfold Shp at h2;omega
theorem isGroup_b {s:Nat → Int} (h:OkShape s) {x:Int} {t:Bool} (ht:t = true ↔ InP x 0 (s 0 + s 1 - 1)) (w:World) :
    Calls Tryz.prog 144 #[shapeV s,.int .i64 x] w fun e w' => e = .returned (.bool t) ∧ Below w.heap.size w w':=by
  have hb:=okB h;have C:=groupCount_any s h;have CB:=fun w' => inBounds_b (w:=w') (show 0 ≤ s 0 + s 1 - 1 by omega) ht;have T0:=one_new w #[.int .i64 (s 0),.int .i64 (s 1),.int .i64 (s 2),.int .i64 (s 3),.int .i64 (s 4),.int .i64 (s 5),.int .i64 (s 6),.int .i64 (s 7),.int .i64 (s 8)] 33;unfold shapeV at C ⊢;clear ht h
  go_enter Tryz.func144,Tryz.ntmps144
  go_wp2_with fail
  refine (C _).mono ?_;rintro e w1 ⟨rfl,b1⟩;have HB:Hid (Below w.heap.size w w1):=(T0.call b1).bel;clear b1 T0 C
  go_wp2_with fail
  refine (CB _).mono ?_;rintro e w2 ⟨rfl,hw2⟩;obtain rfl:=hw2.symm;go_wp2;go_ret;exact ⟨rfl,HB.out⟩
theorem isDataGroup_b {s:Nat → Int} (h:OkShape s) {x:Int} {t:Bool} (ht:t = true ↔ InP x 0 (s 0 - 1)) (w:World) :
    Calls Tryz.prog 36 #[shapeV s,.int .i64 x] w fun e w' => e = .returned (.bool t) ∧ Below w.heap.size w w':=by
  have hb:=okB h;have CB:=fun w' => inBounds_b (w:=w') (show 0 ≤ s 0 - 1 by omega) ht;have HB:Hid (Below w.heap.size w (w.alloc (.cells #[.int .i64 (s 0),.int .i64 (s 1),.int .i64 (s 2),.int .i64 (s 3),.int .i64 (s 4),.int .i64 (s 5),.int .i64 (s 6),.int .i64 (s 7),.int .i64 (s 8)] 33))):=(one_new w #[.int .i64 (s 0),.int .i64 (s 1),.int .i64 (s 2),.int .i64 (s 3),.int .i64 (s 4),.int .i64 (s 5),.int .i64 (s 6),.int .i64 (s 7),.int .i64 (s 8)] 33).bel;unfold shapeV;clear ht h
  go_enter Tryz.func36,Tryz.ntmps36
  go_wp2_with fail
  refine (CB _).mono ?_;rintro e w2 ⟨rfl,hw2⟩;obtain rfl:=hw2.symm;go_wp2;go_ret;exact ⟨rfl,HB.out⟩
theorem isRow_b {s:Nat → Int} (h:OkShape s) {x:Int} {t:Bool} (ht:t = true ↔ InP x 0 (s 4 - 1)) (w:World) :
    Calls Tryz.prog 142 #[shapeV s,.int .i64 x] w fun e w' => e = .returned (.bool t) ∧ Below w.heap.size w w':=by
  have hb:=okB h;have CB:=fun w' => inBounds_b (w:=w') (show 0 ≤ s 4 - 1 by omega) ht;have HB:Hid (Below w.heap.size w (w.alloc (.cells #[.int .i64 (s 0),.int .i64 (s 1),.int .i64 (s 2),.int .i64 (s 3),.int .i64 (s 4),.int .i64 (s 5),.int .i64 (s 6),.int .i64 (s 7),.int .i64 (s 8)] 33))):=(one_new w #[.int .i64 (s 0),.int .i64 (s 1),.int .i64 (s 2),.int .i64 (s 3),.int .i64 (s 4),.int .i64 (s 5),.int .i64 (s 6),.int .i64 (s 7),.int .i64 (s 8)] 33).bel;unfold shapeV;clear ht h
  go_enter Tryz.func142,Tryz.ntmps142
  go_wp2_with fail
  refine (CB _).mono ?_;rintro e w2 ⟨rfl,hw2⟩;obtain rfl:=hw2.symm;go_wp2;go_ret;exact ⟨rfl,HB.out⟩
theorem rowLong_b {s:Nat → Int} (h:OkShape s) {ao:Option Addr} {n cap:Nat} (hn:n ≤ 9223372036854775807) {t:Bool} (ht:((n:Int) == s 2 * 4) = t) (w:World) :
    Calls Tryz.prog 143 #[shapeV s,.slice ao n cap] w fun e w' => e = .returned (.bool t) ∧ Below w.heap.size w w':=by
  have hb:=okB h;have C:=fun w' => rowLength_any s (by omega) (by omega) w';have T0:=one_new w #[.int .i64 (s 0),.int .i64 (s 1),.int .i64 (s 2),.int .i64 (s 3),.int .i64 (s 4),.int .i64 (s 5),.int .i64 (s 6),.int .i64 (s 7),.int .i64 (s 8)] 33;unfold shapeV at C ⊢;clear h
  go_enter Tryz.func143,Tryz.ntmps143
  go_wp2_with fail
  refine (C _).mono ?_;rintro e w1 ⟨rfl,b1⟩;have HB:Hid (Below w.heap.size w w1):=(T0.call b1).bel;clear b1 T0 C;go_wp2;go_ret;exact ⟨by simp [ht],HB.out⟩
set_option maxHeartbeats 4000000 in
theorem differWithin_any (v:Value) (n:Nat) (g:Nat → Int) (hi:Nat) (bound:Int) (hb1:1 ≤ bound) (hb2:bound ≤ 1000000) (w:World) (r:RdI w hi v n g) (hcp:CapP v n) (hhi:hi ≤ w.heap.size) :
    Calls Tryz.prog 94 #[v,.int .i64 bound] w (BoolP (ApartP n g (bound - 1)) w):=by
  have HR:Hid (RdI w hi v n g):=r;obtain ⟨ao,cap,rfl,hm,hc⟩:=r;obtain ⟨_,_,e,hcp⟩:=hcp
  cases e
  unfold maxLen at hm
  go_enter Tryz.func94,Tryz.ntmps94
  go_wp2
  go_loopw [9] (fun i wr => ∃ k:Nat,k ≤ n ∧ i = .int .i64 k ∧ ApartP k g (bound - 1) ∧ Below w.heap.size w wr) (fun i _ => n - (intOf i).toNat)
  case atStart => exact ⟨0,Nat.zero_le _,rfl,fun i hi => by omega,Below.refl _ _⟩
  case round =>
    obtain ⟨k,hk,rfl,hall,hb⟩:=hrel;have HALL:Hid (ApartP k g (bound - 1)):=hall;clear hall
    by_cases hlt:k < n
    · obtain ⟨b,off,rfl,hblt,hcell⟩:=hc (by omega)
      have hck:wr.cell? ⟨b,off + k,none⟩ = some (.int .i64 (g k)):=(hb.cell (p:=⟨b,off + k,none⟩) (by show b < w.heap.size;omega)).trans (hcell k hlt)
      have kcp:k ≤ cap:=by omega
      obtain ⟨t1,h1⟩:=exB (InP (g k) 0 (bound - 1));obtain ⟨t2,h2⟩:=exB (∃ t,t < k ∧ g t = g k);have C1:=fun w' => inBounds_b (w:=w') (show 0 ≤ bound - 1 by omega) h1;have C2:=det_b (contains_any (.slice (some ⟨b,off,none⟩) k cap) k g hi (g k) wr ((HR.out.part hk (by omega)).below hb hhi)) h2;have H1:Hid (t1 = true ↔ InP (g k) 0 (bound - 1)):=h1;have H2:Hid (t2 = true ↔ ∃ t,t < k ∧ g t = g k):=h2;obtain ⟨y,hy⟩:∃ y,y = g k:=⟨_,rfl⟩;have HY:Hid (y = g k):=hy;rw [← hy] at hck C1 C2;have HB:Hid (Below w.heap.size w wr):=hb;clear hc hcell h1 h2 hy hb
      go_wp2_with fail
      refine (C1 _).mono ?_;rintro e w' ⟨rfl,hw'⟩;obtain rfl:=hw'.symm;clear C1
      cases t1 with
      | false =>
        go_wp2;go_ret
        exact boolNo rfl (fun h => by
          have:=H1.out.2 (h k hlt).1
          simp at this) HB.out
      | true =>
        go_wp2_with fail
        refine C2.mono ?_;rintro e w2 ⟨rfl,b2⟩;have HB2:Hid (Below w.heap.size w w2):=HB.out.trans (b2.mono HB.out.size);clear b2 C2
        cases t2 with
        | true =>
          go_wp2;go_ret
          exact boolNo rfl (fun h => by
            obtain ⟨t,ht,e⟩:=H2.out.1 (by simp)
            exact (h k hlt).2 t ht e) HB2.out
        | false =>
          go_wp2
          go_roundw
          case rel => exact ⟨k + 1,by omega,by go_num,fun i hi => by
                        by_cases c:i = k
                        · subst c
                          exact ⟨H1.out.1 (by simp),fun t ht e => by
                            have:=H2.out.2 ⟨t,ht,e⟩
                            simp at this⟩
                        · exact HALL.out i (by omega),HB2.out⟩
          case measure => simp [intOf];omega
    · obtain rfl:k = n:=by omega
      go_wp2;go_ret;exact boolYes rfl HALL.out hb
end Go.Proofs.YtfoidpcoiankoaaGreat
namespace Go.Proofs.YtfoidpcoiankoaaGreat
open Go.RowKit F256
set_option maxHeartbeats 2000000 in
theorem blockFits_any (b:BlockD) (ao:Option Addr) (cap:Nat) (w:World) :
    Calls Tryz.prog 119 #[.agg #[.int .i64 b.stamp,.slice ao b.bytes.1 cap]] w (BoolP (BlockP b) w):=by
  obtain ⟨t1,h1⟩:=exB (InP b.stamp 0 1000000000);obtain ⟨b2,h2⟩:∃ x,((b.bytes.1:Int) == 4) = x:=⟨_,rfl⟩
  have HE:Hid (BlockP b ↔ (t1 = true ∧ b2 = true)):=by
    show BlockP b ↔ _
    rw [h1,← h2];unfold BlockP
    simp
    intro _;omega
  have C1:=fun w' => inBounds_b (w:=w') (show (0:Int) ≤ 1000000000 by omega) h1;have HB:Hid (Below w.heap.size w (w.alloc (.cells #[.int .i64 b.stamp,.slice ao b.bytes.1 cap] 135))):=(Below.refl _ _).alloc (Nat.le_refl _) _;clear h1
  go_enter Tryz.func119,Tryz.ntmps119
  go_wp2_with fail
  refine (C1 _).mono ?_;rintro e w' ⟨rfl,hw'⟩;obtain rfl:=hw'.symm;clear C1
  cases t1 with
  | false =>
    go_wp2;go_ret;exact boolNo rfl (fun h => by have:=HE.out.1 h;simp at this) HB.out
  | true =>
    cases b2 with
    | false =>
      go_wp2;go_ret;exact boolNo rfl (fun h => by have:=HE.out.1 h;simp at this) HB.out
    | true =>
      go_wp2;go_ret;exact boolYes rfl (HE.out.2 (by simp)) HB.out
set_option maxHeartbeats 4000000 in
theorem blocksFit_any (s:Nat → Int) (hs:OkShape s) (p:Nat × (Nat → BlockD)) (t:TypeId) (v:Value) (hi:Nat) (w:World) (h:(layBlock.slice t).rd w hi p [v]) (hhi:hi ≤ w.heap.size) :
    Calls Tryz.prog 93 #[shapeV s,v] w (BoolP (BlocksP s p) w):=by
  obtain ⟨ao,cap,e,hm,hc⟩:=h
  cases e
  unfold maxLen at hm;have HC:Hid (p.1 ≠ 0 → ∃ b off,ao = some ⟨b,off,none⟩ ∧ b < hi ∧ ∀ i,i < p.1 → ∃ ce,layBlock.rd w hi (p.2 i) ce ∧ ∀ j,j < layBlock.sz → w.cell? ⟨b,off + (i * layBlock.sz + j),none⟩ = ce[j]?):=hc;have HT0:Hid (One w (w.alloc (.cells #[.int .i64 (s 0),.int .i64 (s 1),.int .i64 (s 2),.int .i64 (s 3),.int .i64 (s 4),.int .i64 (s 5),.int .i64 (s 6),.int .i64 (s 7),.int .i64 (s 8)] 33)) #[.int .i64 (s 0),.int .i64 (s 1),.int .i64 (s 2),.int .i64 (s 3),.int .i64 (s 4),.int .i64 (s 5),.int .i64 (s 6),.int .i64 (s 7),.int .i64 (s 8)] 33):=one_new w #[.int .i64 (s 0),.int .i64 (s 1),.int .i64 (s 2),.int .i64 (s 3),.int .i64 (s 4),.int .i64 (s 5),.int .i64 (s 6),.int .i64 (s 7),.int .i64 (s 8)] 33;clear hc;unfold shapeV
  go_enter Tryz.func93,Tryz.ntmps93
  by_cases hl:(p.1:Int) = s 4
  · have hne:((p.1:Int) != s 4) = false:=by simpa using hl
    have HL:Hid ((p.1:Int) = s 4):=hl;clear hl;go_wp2
    go_loopw [14] (fun i wr => ∃ k:Nat,k ≤ p.1 ∧ i = .int .i64 k ∧ (∀ i,i < k → BlockP (p.2 i)) ∧ Below w.heap.size w wr) (fun i _ => p.1 - (intOf i).toNat)
    case atStart => exact ⟨0,Nat.zero_le _,rfl,fun i hi => by omega,HT0.out.bel⟩
    case round =>
      obtain ⟨k,hk,rfl,hal,hb⟩:=hrel;have HAL:Hid (∀ i,i < k → BlockP (p.2 i)):=hal;have HB:Hid (Below w.heap.size w wr):=hb;clear hal
      by_cases hlt:k < p.1
      · obtain ⟨b,off,he,hbl,hel⟩:=HC.out (by omega)
        subst he;obtain ⟨ck,hrk,hcell⟩:=elem_rd (t:=0) hel hb hhi hbl hlt;obtain ⟨ao1,cap1,rfl,-⟩:=Block_rd hrk;have c0:wr.cell? ⟨b,off + k * 2,none⟩ = some (.int .i64 (p.2 k).stamp):=hcell 0 (by decide);have c1:wr.cell? ⟨b,off + k * 2 + 1,none⟩ = some (.slice ao1 (p.2 k).bytes.1 cap1):=hcell 1 (by decide);have C:=fun w' => blockFits_any (p.2 k) ao1 cap1 w';clear hel hcell hrk hb
        go_wp2_with fail
        refine (C _).mono ?_;rintro e w2 ⟨t2,rfl,ht2,b2⟩;have HB2:Hid (Below w.heap.size w w2):=HB.out.trans ((bnew b2).mono HB.out.size);have HT2:Hid (t2 = true ↔ BlockP (p.2 k)):=ht2;clear C b2 ht2
        cases t2 with
        | false =>
          go_wp2;go_ret;exact boolNo rfl (fun h => by have:=HT2.out.2 (h.2 k hlt);simp at this) HB2.out
        | true =>
          go_wp2
          go_roundw
          case rel => exact ⟨k + 1,by omega,by go_num,fun i hi => by
                        by_cases c:i = k
                        · subst c;exact HT2.out.1 (by simp)
                        · exact HAL.out i (by omega),HB2.out⟩
          case measure => simp [intOf];omega
      · obtain rfl:k = p.1:=by omega
        go_wp2;go_ret;exact boolYes rfl ⟨HL.out,HAL.out⟩ hb
  · have hne:((p.1:Int) != s 4) = true:=by simpa using hl
    have HN:Hid (¬ (p.1:Int) = s 4):=hl;clear hl;go_wp2;go_ret;exact boolNo rfl (fun h => HN.out h.1) HT0.out.bel
theorem overfull_any (wp:Bool) (n:Nat) (hn:n ≤ 9223372036854775807) (ao:Option Addr) (cap:Nat) (w:World) :
    Calls Tryz.prog 58 #[.agg #[.bool wp,.slice ao n cap]] w (BoolP (200 < n) w):=by
  obtain ⟨P,hP⟩:∃ P:Prop,P = (200 < n):=⟨_,rfl⟩;have HB:Hid (Below w.heap.size w (w.alloc (.cells #[.bool wp,.slice ao n cap] 87))):=(Below.refl _ _).alloc (Nat.le_refl _) _;have HP:Hid (P = (200 < n)):=hP;rw [← hP];clear hP
  by_cases h:200 < n
  · have h1:decide (200 < (n:Int)) = true:=by simp;omega
    go_enter Tryz.func58,Tryz.ntmps58
    go_wp2;go_ret;exact boolYes (by simp [h1]) (by rw [HP.out];exact h) HB.out
  · have h1:decide (200 < (n:Int)) = false:=by simp;omega
    go_enter Tryz.func58,Tryz.ntmps58
    go_wp2;go_ret;exact boolNo (by simp [h1]) (by rw [HP.out];exact h) HB.out
theorem wipedRecs_any (wp:Bool) (n:Nat) (hn:n ≤ 9223372036854775807) (ao:Option Addr) (cap:Nat) (w:World) :
    Calls Tryz.prog 60 #[.agg #[.bool wp,.slice ao n cap]] w (BoolP (wp = true ∧ 0 < n) w):=by
  obtain ⟨P,hP⟩:∃ P:Prop,P = (wp = true ∧ 0 < n):=⟨_,rfl⟩;have HB:Hid (Below w.heap.size w (w.alloc (.cells #[.bool wp,.slice ao n cap] 87))):=(Below.refl _ _).alloc (Nat.le_refl _) _;have HP:Hid (P = (wp = true ∧ 0 < n)):=hP;rw [← hP];clear hP
  cases wp with
  | false =>
    go_enter Tryz.func60,Tryz.ntmps60
    go_wp2;go_ret;exact boolNo rfl (by rw [HP.out];simp) HB.out
  | true =>
    by_cases h:0 < n
    · have h1:decide (0 < (n:Int)) = true:=by simp;omega
      go_enter Tryz.func60,Tryz.ntmps60
      go_wp2;go_ret;exact boolYes (by simp [h]) (by rw [HP.out];exact ⟨by simp,h⟩) HB.out
    · have h1:decide (0 < (n:Int)) = false:=by simp;omega
      go_enter Tryz.func60,Tryz.ntmps60
      go_wp2;go_ret;exact boolNo (by simp [h]) (by rw [HP.out];exact fun x => h x.2) HB.out
end Go.Proofs.YtfoidpcoiankoaaGreat
namespace Go.Proofs.YtfoidpcoiankoaaGreat
open Go.RowKit F256
def Any_overfull (p:Nat × (Nat → TapeD)):Prop:=∃ t,t < p.1 ∧ 200 < (p.2 t).recs.1
def Any_wipedWithRecs (p:Nat × (Nat → TapeD)):Prop:=∃ t,t < p.1 ∧ ((p.2 t).wiped = true ∧ 0 < (p.2 t).recs.1)
set_option maxHeartbeats 4000000 in
theorem index_overfull (p:Nat × (Nat → TapeD)) (t:TypeId) (v:Value) (hi:Nat) (w:World) (h:(layTape.slice t).rd w hi p [v]) (hhi:hi ≤ w.heap.size) :
    Calls Tryz.prog 95 #[v,.func (.func 58) #[] #[]] w fun e w' => ∃ z:Int,e = .returned (.int .i64 z) ∧ (0 ≤ z ↔ Any_overfull p) ∧ Below w.heap.size w w':=by
  obtain ⟨ao,cap,e,hm,hc⟩:=h
  cases e
  unfold maxLen at hm;have HC:Hid (p.1 ≠ 0 → ∃ b off,ao = some ⟨b,off,none⟩ ∧ b < hi ∧ ∀ i,i < p.1 → ∃ ce,layTape.rd w hi (p.2 i) ce ∧ ∀ j,j < layTape.sz → w.cell? ⟨b,off + (i * layTape.sz + j),none⟩ = ce[j]?):=hc;clear hc
  go_enter Tryz.func95,Tryz.ntmps95
  go_wp2
  go_loopw [8] (fun i wr => ∃ k:Nat,k ≤ p.1 ∧ i = .int .i64 k ∧ (∀ i,i < k → ¬ (200 < (p.2 i).recs.1)) ∧ Below w.heap.size w wr) (fun i _ => p.1 - (intOf i).toNat)
  case atStart => exact ⟨0,Nat.zero_le _,rfl,fun i hi => by omega,Below.refl _ _⟩
  case round =>
    obtain ⟨k,hk,rfl,hal,hb⟩:=hrel;have HAL:Hid (∀ i,i < k → ¬ (200 < (p.2 i).recs.1)):=hal;have HB:Hid (Below w.heap.size w wr):=hb;clear hal
    by_cases hlt:k < p.1
    · obtain ⟨b,off,he,hbl,hel⟩:=HC.out (by omega)
      subst he;obtain ⟨ck,hrk,hcell⟩:=elem_rd (t:=0) hel hb hhi hbl hlt;obtain ⟨ao1,cap1,rfl,g1⟩:=Tape_rd hrk
      have hm1:(p.2 k).recs.1 ≤ maxLen:=by
        obtain ⟨_,_,_,h,_⟩:=g1;exact h
      unfold maxLen at hm1;have c0:wr.cell? ⟨b,off + k * 2,none⟩ = some (.bool (p.2 k).wiped):=hcell 0 (by decide);have c1:wr.cell? ⟨b,off + k * 2 + 1,none⟩ = some (.slice ao1 (p.2 k).recs.1 cap1):=hcell 1 (by decide);have C:=fun w' => overfull_any (p.2 k).wiped (p.2 k).recs.1 (by omega) ao1 cap1 w';clear hel hcell hrk hb g1
      go_wp2_with fail
      refine (C _).mono ?_;rintro e w2 ⟨t2,rfl,ht2,b2⟩;have HB2:Hid (Below w.heap.size w w2):=HB.out.trans (b2.mono HB.out.size);have HT2:Hid (t2 = true ↔ (200 < (p.2 k).recs.1)):=ht2;clear C b2 ht2
      cases t2 with
      | true =>
        have HP:Hid (0 ≤ (k:Int) ↔ Any_overfull p):=⟨fun _ => ⟨k,hlt,HT2.out.1 rfl⟩,fun _ => by omega⟩;go_wp2;go_ret;exact ⟨_,rfl,HP.out,HB2.out⟩
      | false =>
        go_wp2
        go_roundw
        case rel => exact ⟨k + 1,by omega,by go_num,fun i hi => by
                      by_cases c:i = k
                      · subst c;exact fun h => by have:=HT2.out.2 h;simp at this
                      · exact HAL.out i (by omega),HB2.out⟩
        case measure => simp [intOf];omega
    · obtain rfl:k = p.1:=by omega
      have HP:Hid (0 ≤ (-1:Int) ↔ Any_overfull p):=⟨fun h => by omega,fun ⟨t,ht,he⟩ => absurd he (HAL.out t ht)⟩;go_wp2;go_ret;exact ⟨-1,rfl,HP.out,hb⟩
theorem contains_overfull (p:Nat × (Nat → TapeD)) (t:TypeId) (v:Value) (hi:Nat) (w:World) (h:(layTape.slice t).rd w hi p [v]) (hhi:hi ≤ w.heap.size) :
    Calls Tryz.prog 57 #[v,.func (.func 58) #[] #[]] w (BoolP (Any_overfull p) w):=by
  have C:=index_overfull p t v hi w h hhi;obtain ⟨ao,cap,e,hm,hc⟩:=h
  cases e
  clear hc hm
  go_enter Tryz.func57,Tryz.ntmps57
  go_wp2_with fail
  refine C.mono ?_;rintro e w1 ⟨z,rfl,hz,b1⟩;have HZ:Hid (0 ≤ z ↔ Any_overfull p):=hz;have HB:Hid (Below w.heap.size w w1):=b1;clear hz C b1
  by_cases h0:0 ≤ z
  · have HP:Hid (Any_overfull p):=HZ.out.mp h0
    go_wp2;go_ret;exact boolYes rfl HP.out HB.out
  · have HP:Hid (¬ Any_overfull p):=fun h => h0 (HZ.out.mpr h)
    have td:decide (0 ≤ z) = false:=by simp;omega
    clear h0;go_wp2;go_ret;exact boolNo rfl HP.out HB.out
set_option maxHeartbeats 4000000 in
theorem index_wipedWithRecs (p:Nat × (Nat → TapeD)) (t:TypeId) (v:Value) (hi:Nat) (w:World) (h:(layTape.slice t).rd w hi p [v]) (hhi:hi ≤ w.heap.size) :
    Calls Tryz.prog 95 #[v,.func (.func 60) #[] #[]] w fun e w' => ∃ z:Int,e = .returned (.int .i64 z) ∧ (0 ≤ z ↔ Any_wipedWithRecs p) ∧ Below w.heap.size w w':=by
  obtain ⟨ao,cap,e,hm,hc⟩:=h
  cases e
  unfold maxLen at hm;have HC:Hid (p.1 ≠ 0 → ∃ b off,ao = some ⟨b,off,none⟩ ∧ b < hi ∧ ∀ i,i < p.1 → ∃ ce,layTape.rd w hi (p.2 i) ce ∧ ∀ j,j < layTape.sz → w.cell? ⟨b,off + (i * layTape.sz + j),none⟩ = ce[j]?):=hc;clear hc
  go_enter Tryz.func95,Tryz.ntmps95
  go_wp2
  go_loopw [8] (fun i wr => ∃ k:Nat,k ≤ p.1 ∧ i = .int .i64 k ∧ (∀ i,i < k → ¬ ((p.2 i).wiped = true ∧ 0 < (p.2 i).recs.1)) ∧ Below w.heap.size w wr) (fun i _ => p.1 - (intOf i).toNat)
  case atStart => exact ⟨0,Nat.zero_le _,rfl,fun i hi => by omega,Below.refl _ _⟩
  case round =>
    obtain ⟨k,hk,rfl,hal,hb⟩:=hrel;have HAL:Hid (∀ i,i < k → ¬ ((p.2 i).wiped = true ∧ 0 < (p.2 i).recs.1)):=hal;have HB:Hid (Below w.heap.size w wr):=hb;clear hal
    by_cases hlt:k < p.1
    · obtain ⟨b,off,he,hbl,hel⟩:=HC.out (by omega)
      subst he;obtain ⟨ck,hrk,hcell⟩:=elem_rd (t:=0) hel hb hhi hbl hlt;obtain ⟨ao1,cap1,rfl,g1⟩:=Tape_rd hrk
      have hm1:(p.2 k).recs.1 ≤ maxLen:=by
        obtain ⟨_,_,_,h,_⟩:=g1;exact h
      unfold maxLen at hm1;have c0:wr.cell? ⟨b,off + k * 2,none⟩ = some (.bool (p.2 k).wiped):=hcell 0 (by decide);have c1:wr.cell? ⟨b,off + k * 2 + 1,none⟩ = some (.slice ao1 (p.2 k).recs.1 cap1):=hcell 1 (by decide);have C:=fun w' => wipedRecs_any (p.2 k).wiped (p.2 k).recs.1 (by omega) ao1 cap1 w';clear hel hcell hrk hb g1
      go_wp2_with fail
      refine (C _).mono ?_;rintro e w2 ⟨t2,rfl,ht2,b2⟩;have HB2:Hid (Below w.heap.size w w2):=HB.out.trans (b2.mono HB.out.size);have HT2:Hid (t2 = true ↔ ((p.2 k).wiped = true ∧ 0 < (p.2 k).recs.1)):=ht2;clear C b2 ht2
      cases t2 with
      | true =>
        have HP:Hid (0 ≤ (k:Int) ↔ Any_wipedWithRecs p):=⟨fun _ => ⟨k,hlt,HT2.out.1 rfl⟩,fun _ => by omega⟩;go_wp2;go_ret;exact ⟨_,rfl,HP.out,HB2.out⟩
      | false =>
        go_wp2
        go_roundw
        case rel => exact ⟨k + 1,by omega,by go_num,fun i hi => by
                      by_cases c:i = k
                      · subst c;exact fun h => by have:=HT2.out.2 h;simp at this
                      · exact HAL.out i (by omega),HB2.out⟩
        case measure => simp [intOf];omega
    · obtain rfl:k = p.1:=by omega
      have HP:Hid (0 ≤ (-1:Int) ↔ Any_wipedWithRecs p):=⟨fun h => by omega,fun ⟨t,ht,he⟩ => absurd he (HAL.out t ht)⟩;go_wp2;go_ret;exact ⟨-1,rfl,HP.out,hb⟩
theorem contains_wipedWithRecs (p:Nat × (Nat → TapeD)) (t:TypeId) (v:Value) (hi:Nat) (w:World) (h:(layTape.slice t).rd w hi p [v]) (hhi:hi ≤ w.heap.size) :
    Calls Tryz.prog 57 #[v,.func (.func 60) #[] #[]] w (BoolP (Any_wipedWithRecs p) w):=by
  have C:=index_wipedWithRecs p t v hi w h hhi;obtain ⟨ao,cap,e,hm,hc⟩:=h
  cases e
  clear hc hm
  go_enter Tryz.func57,Tryz.ntmps57
  go_wp2_with fail
  refine C.mono ?_;rintro e w1 ⟨z,rfl,hz,b1⟩;have HZ:Hid (0 ≤ z ↔ Any_wipedWithRecs p):=hz;have HB:Hid (Below w.heap.size w w1):=b1;clear hz C b1
  by_cases h0:0 ≤ z
  · have HP:Hid (Any_wipedWithRecs p):=HZ.out.mp h0
    go_wp2;go_ret;exact boolYes rfl HP.out HB.out
  · have HP:Hid (¬ Any_wipedWithRecs p):=fun h => h0 (HZ.out.mpr h)
    have td:decide (0 ≤ z) = false:=by simp;omega
    clear h0;go_wp2;go_ret;exact boolNo rfl HP.out HB.out
def GroupsP (s:Nat → Int) (p:Nat × (Nat → Nat × (Nat → DriveD))):Prop:=(p.1:Int) = s 0 + s 1 ∧ ∀ i,i < p.1 → DrivesP s (p.2 i)
set_option maxHeartbeats 8000000 in
theorem groupsFit_any (s:Nat → Int) (hs:OkShape s) (p:Nat × (Nat → Nat × (Nat → DriveD))) (v:Value) (hi:Nat) (w:World) (h:((layDrive.slice 133).slice 92).rd w hi p [v]) (hhi:hi ≤ w.heap.size) :
    Calls Tryz.prog 55 #[shapeV s,v] w (BoolP (GroupsP s p) w):=by
  obtain ⟨ao,cap,e,hm,hc⟩:=h
  cases e
  unfold maxLen at hm;have HC:Hid (p.1 ≠ 0 → ∃ b off,ao = some ⟨b,off,none⟩ ∧ b < hi ∧ ∀ i,i < p.1 → ∃ ce,(layDrive.slice 133).rd w hi (p.2 i) ce ∧ ∀ j,j < (layDrive.slice 133).sz → w.cell? ⟨b,off + (i * (layDrive.slice 133).sz + j),none⟩ = ce[j]?):=hc;have T0:=one_new w #[.int .i64 (s 0),.int .i64 (s 1),.int .i64 (s 2),.int .i64 (s 3),.int .i64 (s 4),.int .i64 (s 5),.int .i64 (s 6),.int .i64 (s 7),.int .i64 (s 8)] 33;have CG:=fun w' => groupCount_any s hs w';have CD:=fun w' => driveCount_any s hs w';have HS:Hid (OkShape s):=hs;clear hc hs;unfold shapeV at CG CD ⊢
  go_enter Tryz.func55,Tryz.ntmps55
  go_wp2_with fail
  refine (CG _).mono ?_;rintro e w1 ⟨rfl,b1⟩;have HT1:Hid (One w w1 #[.int .i64 (s 0),.int .i64 (s 1),.int .i64 (s 2),.int .i64 (s 3),.int .i64 (s 4),.int .i64 (s 5),.int .i64 (s 6),.int .i64 (s 7),.int .i64 (s 8)] 33):=T0.call b1;clear b1 T0 CG
  by_cases hl:(p.1:Int) = s 0 + s 1
  · have hne:((p.1:Int) != s 0 + s 1) = false:=by simpa using hl
    have HL:Hid ((p.1:Int) = s 0 + s 1):=hl;clear hl;go_wp2
    go_loopw [16] (fun i wr => ∃ k:Nat,k ≤ p.1 ∧ i = .int .i64 k ∧ (∀ i,i < k → DrivesP s (p.2 i)) ∧ One w wr #[.int .i64 (s 0),.int .i64 (s 1),.int .i64 (s 2),.int .i64 (s 3),.int .i64 (s 4),.int .i64 (s 5),.int .i64 (s 6),.int .i64 (s 7),.int .i64 (s 8)] 33) (fun i _ => p.1 - (intOf i).toNat)
    case atStart => exact ⟨0,Nat.zero_le _,rfl,fun i hi => by omega,HT1.out⟩
    case round =>
      clear HT1;obtain ⟨k,hk,rfl,hal,T2⟩:=hrel;obtain ⟨wo,rfl⟩:∃ x,x = wr:=⟨_,rfl⟩;have HAL:Hid (∀ i,i < k → DrivesP s (p.2 i)):=hal;have HT2:Hid (One w wo #[.int .i64 (s 0),.int .i64 (s 1),.int .i64 (s 2),.int .i64 (s 3),.int .i64 (s 4),.int .i64 (s 5),.int .i64 (s 6),.int .i64 (s 7),.int .i64 (s 8)] 33):=T2;clear hal;have x2_0:wo.cell? ⟨w.heap.size,0,none⟩ = some (.int .i64 (s 0)):=T2.b1.cell 0;have x2_1:wo.cell? ⟨w.heap.size,1,none⟩ = some (.int .i64 (s 1)):=T2.b1.cell 1;have x2_2:wo.cell? ⟨w.heap.size,2,none⟩ = some (.int .i64 (s 2)):=T2.b1.cell 2;have x2_3:wo.cell? ⟨w.heap.size,3,none⟩ = some (.int .i64 (s 3)):=T2.b1.cell 3;have x2_4:wo.cell? ⟨w.heap.size,4,none⟩ = some (.int .i64 (s 4)):=T2.b1.cell 4;have x2_5:wo.cell? ⟨w.heap.size,5,none⟩ = some (.int .i64 (s 5)):=T2.b1.cell 5;have x2_6:wo.cell? ⟨w.heap.size,6,none⟩ = some (.int .i64 (s 6)):=T2.b1.cell 6;have x2_7:wo.cell? ⟨w.heap.size,7,none⟩ = some (.int .i64 (s 7)):=T2.b1.cell 7;have x2_8:wo.cell? ⟨w.heap.size,8,none⟩ = some (.int .i64 (s 8)):=T2.b1.cell 8
      by_cases hlt:k < p.1
      · obtain ⟨b,off,he,hbl,hel⟩:=HC.out (by omega)
        subst he;obtain ⟨ck,hrk,hcell⟩:=elem_rd (t:=0) hel T2.bel hhi hbl hlt;obtain ⟨ao9,cap9,rfl⟩:=sl_form hrk
        have c0:wo.cell? ⟨b,off + k,none⟩ = some (.slice ao9 (p.2 k).1 cap9):=by
          have h:=hcell 0 (show 0 < 1 by decide);rw [show (layDrive.slice 133).sz = 1 from rfl,Nat.mul_one,Nat.add_zero] at h;exact h
        obtain ⟨_,_,e9,hm9,hc9⟩:=hrk
        cases e9
        have HC9:Hid ((p.2 k).1 ≠ 0 → ∃ b off,ao9 = some ⟨b,off,none⟩ ∧ b < hi ∧ ∀ i,i < (p.2 k).1 → ∃ ce,layDrive.rd wo hi ((p.2 k).2 i) ce ∧ ∀ j,j < layDrive.sz → wo.cell? ⟨b,off + (i * layDrive.sz + j),none⟩ = ce[j]?):=hc9;unfold maxLen at hm9;have zw:w.heap.size < wo.heap.size:=T2.b1.lt;clear hcell hc9 hel T2
        go_wp2_with fail
        refine (CD _).mono ?_;rintro e w3 ⟨rfl,b3⟩;have HT3:Hid (One w w3 #[.int .i64 (s 0),.int .i64 (s 1),.int .i64 (s 2),.int .i64 (s 3),.int .i64 (s 4),.int .i64 (s 5),.int .i64 (s 6),.int .i64 (s 7),.int .i64 (s 8)] 33):=HT2.out.call b3;have HB3:Hid (Below wo.heap.size wo w3):=b3;clear b3 c0 x2_0 x2_1 x2_2 x2_3 x2_4 x2_5 x2_6 x2_7 x2_8
        by_cases hl2:((p.2 k).1:Int) = s 2 + s 3
        · have hne2:(((p.2 k).1:Int) != s 2 + s 3) = false:=by simpa using hl2
          have HL2:Hid (((p.2 k).1:Int) = s 2 + s 3):=hl2;clear hl2;go_wp2
          go_loopw [27] (fun i wx => ∃ q:Nat,q ≤ (p.2 k).1 ∧ i = .int .i64 q ∧ (∀ i,i < q → BlocksP s ((p.2 k).2 i).blocks) ∧ One w wx #[.int .i64 (s 0),.int .i64 (s 1),.int .i64 (s 2),.int .i64 (s 3),.int .i64 (s 4),.int .i64 (s 5),.int .i64 (s 6),.int .i64 (s 7),.int .i64 (s 8)] 33 ∧ Below wo.heap.size wo wx) (fun i _ => (p.2 k).1 - (intOf i).toNat)
          case atStart => exact ⟨0,Nat.zero_le _,rfl,fun i hi => by omega,HT3.out,HB3.out⟩
          case round =>
            clear HT3 HB3;obtain ⟨q,hq,rfl,hal2,T4,hb4⟩:=hrel;obtain ⟨wx,rfl⟩:∃ x,x = wr:=⟨_,rfl⟩;have HAL2:Hid (∀ i,i < q → BlocksP s ((p.2 k).2 i).blocks):=hal2;have HT4:Hid (One w wx #[.int .i64 (s 0),.int .i64 (s 1),.int .i64 (s 2),.int .i64 (s 3),.int .i64 (s 4),.int .i64 (s 5),.int .i64 (s 6),.int .i64 (s 7),.int .i64 (s 8)] 33):=T4;have HB4:Hid (Below wo.heap.size wo wx):=hb4;clear hal2
            by_cases hlq:q < (p.2 k).1
            · obtain ⟨b9,off9,he9,hb9,hel9⟩:=HC9.out (by omega)
              subst he9;obtain ⟨cq,hrq,hcq⟩:=elem_rd (t:=0) hel9 hb4 (by omega) hb9 hlq;obtain ⟨ao5,cap5,rfl,g5⟩:=Drive_rd hrq;have c4:wx.cell? ⟨b9,off9 + q * 2,none⟩ = some (.bool ((p.2 k).2 q).wiped):=hcq 0 (by decide);have c5:wx.cell? ⟨b9,off9 + q * 2 + 1,none⟩ = some (.slice ao5 ((p.2 k).2 q).blocks.1 cap5):=hcq 1 (by decide);have HG5:Hid ((layBlock.slice 135).rd wx hi ((p.2 k).2 q).blocks [.slice ao5 ((p.2 k).2 q).blocks.1 cap5]):=g5;have zx:w.heap.size < wx.heap.size:=T4.b1.lt;clear hel9 hcq hrq T4 hb4 g5
              go_upto_region 11 with fail
              have bA:Below wx.heap.size wx (wx.alloc (.cells #[.bool ((p.2 k).2 q).wiped,.slice ao5 ((p.2 k).2 q).blocks.1 cap5] 133)):=(Below.refl _ _).alloc (Nat.le_refl _) _;have T5:One w (wx.alloc (.cells #[.bool ((p.2 k).2 q).wiped,.slice ao5 ((p.2 k).2 q).blocks.1 cap5] 133)) #[.int .i64 (s 0),.int .i64 (s 1),.int .i64 (s 2),.int .i64 (s 3),.int .i64 (s 4),.int .i64 (s 5),.int .i64 (s 6),.int .i64 (s 7),.int .i64 (s 8)] 33:=HT4.out.call bA;have X5:Box (wx.alloc (.cells #[.bool ((p.2 k).2 q).wiped,.slice ao5 ((p.2 k).2 q).blocks.1 cap5] 133)) wx.heap.size #[.bool ((p.2 k).2 q).wiped,.slice ao5 ((p.2 k).2 q).blocks.1 cap5] 133:=box_new _ _ _;obtain ⟨W5,hW5⟩:∃ x,x = wx.alloc (.cells #[.bool ((p.2 k).2 q).wiped,.slice ao5 ((p.2 k).2 q).blocks.1 cap5] 133):=⟨_,rfl⟩;rw [← hW5] at T5 X5 bA ⊢;have y5_1:W5.cell? ⟨wx.heap.size,1,none⟩ = some (.slice ao5 ((p.2 k).2 q).blocks.1 cap5):=X5.cell 1;have HT5:Hid (One w W5 #[.int .i64 (s 0),.int .i64 (s 1),.int .i64 (s 2),.int .i64 (s 3),.int .i64 (s 4),.int .i64 (s 5),.int .i64 (s 6),.int .i64 (s 7),.int .i64 (s 8)] 33):=T5;have HB5:Hid (Below wx.heap.size wx W5):=bA;have x5_0:W5.cell? ⟨w.heap.size,0,none⟩ = some (.int .i64 (s 0)):=T5.b1.cell 0;have x5_1:W5.cell? ⟨w.heap.size,1,none⟩ = some (.int .i64 (s 1)):=T5.b1.cell 1;have x5_2:W5.cell? ⟨w.heap.size,2,none⟩ = some (.int .i64 (s 2)):=T5.b1.cell 2;have x5_3:W5.cell? ⟨w.heap.size,3,none⟩ = some (.int .i64 (s 3)):=T5.b1.cell 3;have x5_4:W5.cell? ⟨w.heap.size,4,none⟩ = some (.int .i64 (s 4)):=T5.b1.cell 4;have x5_5:W5.cell? ⟨w.heap.size,5,none⟩ = some (.int .i64 (s 5)):=T5.b1.cell 5;have x5_6:W5.cell? ⟨w.heap.size,6,none⟩ = some (.int .i64 (s 6)):=T5.b1.cell 6;have x5_7:W5.cell? ⟨w.heap.size,7,none⟩ = some (.int .i64 (s 7)):=T5.b1.cell 7;have x5_8:W5.cell? ⟨w.heap.size,8,none⟩ = some (.int .i64 (s 8)):=T5.b1.cell 8;obtain ⟨t6,h6⟩:=exB (BlocksP s ((p.2 k).2 q).blocks);have CB:=det_b (blocksFit_any s HS.out ((p.2 k).2 q).blocks _ _ hi W5 ((layBlock.slice 135).rd_below HG5.out bA (by omega)) (by have:=bA.size;omega)) h6;unfold shapeV at CB;have H6:Hid (t6 = true ↔ BlocksP s ((p.2 k).2 q).blocks):=h6;clear T5 X5 bA hW5 h6 c4 c5
              go_wp2_with fail
              refine CB.mono ?_;rintro e w6 ⟨rfl,b6⟩;have HT6:Hid (One w w6 #[.int .i64 (s 0),.int .i64 (s 1),.int .i64 (s 2),.int .i64 (s 3),.int .i64 (s 4),.int .i64 (s 5),.int .i64 (s 6),.int .i64 (s 7),.int .i64 (s 8)] 33):=HT5.out.call b6;have HB6:Hid (Below wo.heap.size wo w6):=HB4.out.trans ((HB5.out.trans (b6.mono HB5.out.size)).mono HB4.out.size);clear b6 CB x5_0 x5_1 x5_2 x5_3 x5_4 x5_5 x5_6 x5_7 x5_8 y5_1
              cases t6 with
              | false =>
                go_wp2;go_ret;exact boolNo rfl (fun h => by have:=H6.out.2 ((h.2 k hlt).2 q hlq);simp at this) HT6.out.bel
              | true =>
                go_wp2
                go_roundw
                case rel => exact ⟨q + 1,by omega,by go_num,fun i hi => by
                              by_cases c:i = q
                              · subst c;exact H6.out.1 (by simp)
                              · exact HAL2.out i (by omega),HT6.out,HB6.out⟩
                case measure => simp [intOf];omega
            · obtain rfl:q = (p.2 k).1:=by omega
              clear T4 hb4;go_wp2
              go_roundw
              case rel => exact ⟨k + 1,by omega,by go_num,fun i hi => by
                            by_cases c:i = k
                            · subst c
                              exact ⟨HL2.out,HAL2.out⟩
                            · exact HAL.out i (by omega),HT4.out⟩
              case measure => simp [intOf];omega
        · have hne2:(((p.2 k).1:Int) != s 2 + s 3) = true:=by simpa using hl2
          have HN2:Hid (¬ ((p.2 k).1:Int) = s 2 + s 3):=hl2;clear hl2;go_wp2;go_ret;exact boolNo rfl (fun h => HN2.out (h.2 k hlt).1) HT3.out.bel
      · obtain rfl:k = p.1:=by omega
        go_wp2;go_ret;exact boolYes rfl ⟨HL.out,HAL.out⟩ HT2.out.bel
  · have hne:((p.1:Int) != s 0 + s 1) = true:=by simpa using hl
    have HN:Hid (¬ (p.1:Int) = s 0 + s 1):=hl;clear hl;go_wp2;go_ret;exact boolNo rfl (fun h => HN.out h.1) HT1.out.bel
end Go.Proofs.YtfoidpcoiankoaaGreat