/- The ledger's items. -/
import Derived.Test.YtbjkjcfodljamaaGreatZPitemsah
import Derived.Test.YtbjkjcfodljamaaGreatZPitemsan
import Derived.Deep.DeepCutAuto
import Derived.Test.YtbjkjcfodljamaaGreatZPitemsak
import Derived.Test.YtbjkjcfodljamaaGreatZPitemsal
import Derived.Test.YtbjkjcfodljamaaGreatZPitemsag
set_option linter.unusedVariables false
set_option linter.unusedSimpArgs false
namespace Go.Proofs.YtbjkjcfodljamaaGreat
open Go.RowKit Go.Maps Go.Sort F256
theorem size_le {w:World} {b n:Nat} {D:DataW Value} (h:w.ownsMap Tryz.prog 9 heldR b n D):Maps.size D ≤ n:=by
  obtain ⟨es,clock,_,_,h1,rfl⟩:=h;rw [Maps.size_eq];refine Nat.le_trans ?_ h1;have:=(WideShapes.sorted_perm (es.toList.map (WideElems.rg Tryz.prog 9 heldR))).length_eq;rw [this]
  simp
theorem ownsRow_low {w:World} {base base' size n:Nat} {e:TypeId} {v:Value} {xs:List Value} (h:w.ownsRow base e size v n xs) (hb:base' ≤ base):w.ownsRow base' e size v n xs :=
  ⟨h.1,h.2.elim Or.inl (fun ⟨g,cap,cur,hv,hg,r⟩ => Or.inr ⟨g,cap,cur,hv,Nat.le_trans hb hg,r⟩)⟩
theorem take_snoc {β:Type} (l:List β) {k:Nat} (h:k < l.length):l.take (k + 1) = l.take k ++ [l[k]]:=by rw [List.take_add_one,List.getElem?_eq_getElem h];rfl
theorem getD_snoc_lt {l:List Nat} {a i:Nat} (h:i < l.length):(l ++ [a]).getD i 0 = l.getD i 0:=by
  rw [List.getD_eq_getElem?_getD,List.getD_eq_getElem?_getD,List.getElem?_append_left h]
theorem getD_snoc_at {l:List Nat} {a:Nat}:(l ++ [a]).getD l.length 0 = a:=by
  rw [List.getD_eq_getElem?_getD,List.getElem?_append_right (Nat.le_refl _)]
  simp
set_option maxHeartbeats 16000000 in
set_option maxRecDepth 20000 in
theorem items_any {w:World} {lo B hi:Nat} {s:Nat → Int} {m N:Nat} {x:Nat → RecD} {ce:Nat → List Value} {v:Value} {b1 b2 b3 b4 b5:Nat} (h:Ldg w lo B s m N x ce v b1 b2 b3 b4 b5) (hN:N ≤ 1000000) (hhi:hi ≤ w.heap.size) (hr:∀ i,i < N → layRec.rd w hi (x i) (ce i)) (hk:∀ i,i < N → (x i).kind = 1 → ((x i).length < 0 ↔ (x i).length = -1)) :
    Calls Tryz.prog 37 #[.pointer (some ⟨B,0,none⟩)] w fun e w' => ∃ u cu l,e = .returned u ∧ Live x N l ∧ View layRec 81 w' w.heap.size hi u l.length (fun i => x (l.getD i 0)) cu ∧ Below w.heap.size w w':=by
  have HL:Hid (Ldg w lo B s m N x ce v b1 b2 b3 b4 b5):=h;have HR:Hid (∀ i,i < N → layRec.rd w hi (x i) (ce i)):=hr;have HK:Hid (∀ i,i < N → (x i).kind = 1 → ((x i).length < 0 ↔ (x i).length = -1)):=hk;obtain ⟨D,hown,hf⟩:=h.m1;have hsz:=size_le hown;have d4:w.cell? ⟨B,10,none⟩ = some (.map (some b1)):=h.box.cell 10
  have HF:Hid (∀ ss:List (List UInt8),ss.Perm (strKeys D) → Names x N (ss.mergeSort (fun x y => decide (x ≤ y)))):=fun ss hS => names_ok hown hf (fun i hi' => by
    obtain ⟨ao6,cap6,ao7,cap7,ao8,cap8,-,-,-,-,-,-,k2,-⟩:=Rec_rd (hr i hi')
    exact k2) hS
  have HSZ:Hid (∀ ss:List (List UInt8),ss.Perm (strKeys D) → ss.length ≤ 1000000):=fun ss hS => by
    have e1:=hS.length_eq;obtain ⟨es,rfl,_⟩:=hown.keysOf
    have e2:(strKeys (.map es:DataW Value)).length = es.length:=by show (es.map _).length = _;simp
    rw [Maps.size_eq] at hsz;omega
  have CK:=callsIn_wide.1 (itMapsKeys (some b1) w);have CS:=callsIn_wide.1 (itSortedKeys b1 N D heldR w hown (by unfold maxLen;omega) (by omega));clear h hr hk hown hf hsz
  go_enter Tryz.func37,Tryz.ntmps37
  go_wp2_with fail
  refine CK.mono ?_;rintro e w1 ⟨rfl,rfl⟩
  go_wp2_with fail
  refine CS.mono ?_;rintro e w2 ⟨vs,ss,rfl,hS,hrow,hnil,hb2⟩;have hNm:=HF.out ss hS;have hlen:=HSZ.out ss hS;obtain ⟨ns,hns⟩:∃ ns,ns = ss.mergeSort (fun x y => decide (x ≤ y)):=⟨_,rfl⟩
  have hnl:ns.length = ss.length:=by rw [hns];exact (List.mergeSort_perm ss _).length_eq
  rw [← hns] at hNm hrow;rw [← hnl] at hrow hlen;have HNM:Hid (Names x N ns):=hNm;have bel2:Below w.heap.size w w2:=((Below.refl _ w).alloc (Nat.le_refl _) _).trans (hb2.mono (by simp));have HB2:Hid (Below w.heap.size w w2):=bel2;have z2:w.heap.size ≤ w2.heap.size:=bel2.size
  obtain ⟨ao,cap,hvs⟩:∃ ao cap,vs = .slice ao ns.length cap:=by
    rcases hrow.2 with ⟨rfl,e⟩ | ⟨g,c,cur,rfl,_⟩
    · exact ⟨none,0,by rw [e]⟩
    · exact ⟨_,_,rfl⟩
  subst hvs;have HROW:Hid (w2.ownsRow (w.alloc (.cells #[.map (some b1)] 109)).heap.size 9 1 (.slice ao ns.length cap) ns.length (ns.map encStr)):=hrow;obtain ⟨M,hM⟩:∃ M,M = ns.length:=⟨_,rfl⟩;have HM:Hid (M = ns.length):=hM;rw [← hM] at hlen ⊢;clear CK CS hS hrow hnil hb2 hns hnl hNm bel2 d4 hM;go_wp2
  go_loopw [3,14] (fun u i wr => ∃ (k:Nat) (cu:Nat → List Value),k ≤ M ∧ i = .int .i64 k ∧ View layRec 81 wr w2.heap.size hi u (lvL x N (ns.take k)).length (fun i => x ((lvL x N (ns.take k)).getD i 0)) cu ∧ Below w2.heap.size w2 wr) (fun _ i _ => M - (intOf i).toNat)
  case atStart => exact ⟨0,fun _ => [],Nat.zero_le _,rfl,View.nil _ _ _ _ _,Below.refl _ _⟩
  case round =>
    obtain ⟨k,cu,hk,rfl,hV,hb⟩:=hrel;obtain ⟨c,hc⟩:∃ c,c = (lvL x N (ns.take k)).length:=⟨_,rfl⟩;have HC:Hid (c = (lvL x N (ns.take k)).length):=hc;rw [← hc] at hV
    have hck:c ≤ k:=by
      have h1:=lvL_len x N (ns.take k);have h2:=List.length_take_le k ns;omega
    obtain ⟨au,cau,hu⟩:=hV.form;subst hu;have HV:Hid (View layRec 81 wr w2.heap.size hi (.slice au c cau) c (fun i => x ((lvL x N (ns.take k)).getD i 0)) cu):=hV;have HB:Hid (Below w2.heap.size w2 wr):=hb;have zr:w2.heap.size ≤ wr.heap.size:=hb.size;have HBW:Hid (Below w.heap.size w wr):=HB2.out.trans (hb.mono z2)
    by_cases hlt:k < M
    · have hkn:k < ns.length:=by rw [← HM.out];exact hlt
      obtain ⟨gs,hga,ye⟩:∃ gs,ao = some ⟨gs,0,none⟩ ∧ wr.cell? ⟨gs,k,none⟩ = some (encStr (ns[k])):=by
        rcases HROW.out.2 with ⟨_,e⟩ | ⟨g,c0,cur,e,q1,q2,q3,q4,q5,q6⟩
        · omega
        · cases e
          refine ⟨g,rfl,?_⟩
          have hg:g < w2.heap.size:=by
            obtain ⟨hh,_⟩:=Array.getElem?_eq_some_iff.1 q2;exact hh
          have e1:cur.toList[k]? = some (encStr (ns[k])):=by
            have:(cur.toList.take (ns.length * 1))[k]? = some (encStr (ns[k])):=by
              rw [q6,List.getElem?_map,List.getElem?_eq_getElem hkn];rfl
            rw [List.getElem?_take,if_pos (by omega)] at this;exact this
          rw [hb.cell (p:=⟨g,k,none⟩) hg,cell_of_row w2 g k cur _ _ q2]
          simpa using e1
      subst hga;obtain ⟨nk,hnk⟩:∃ nk,nk = ns[k]:=⟨_,rfl⟩;rw [← hnk] at ye
      have hmem:nk ∈ ns:=by rw [hnk];exact List.getElem_mem hkn
      obtain ⟨j1,j2,j3,j4⟩:=HNM.out.idx_is hmem;have hll:=(HNM.out.at_ nk hmem).1;obtain ⟨j,hj⟩:∃ j,j = idx x N nk:=⟨_,rfl⟩;rw [← hj] at j1 j2 j3 j4;obtain ⟨kl,hkl⟩:=keyOf_S (s:=⟨nk.toArray⟩) (by show nk.toArray.size ≤ maxLen;simpa using hll);have Lr:=HL.out.keepAll (fun b hb' => HBW.out.block b hb');have hlook:=Lr.m1.look keyS Tryz.underlying109 (zeroIE _) hkl;rw [(newF_at x ce _ N).2 j j2] at hlook;have hlk:(Instr.lookup 109 (.map (some b1)) (.string ⟨nk.toArray⟩) false).run Tryz.prog wr = .ok (.agg (ce j).toArray) wr:=hlook;have d4:wr.cell? ⟨B,10,none⟩ = some (.map (some b1)):=Lr.box.cell 10;have ye':wr.cell? ⟨gs,k,none⟩ = some (.string ⟨nk.toArray⟩):=ye;have HJ:Hid (j < N):=j1;have hiff:=HK.out j j1 j3;obtain ⟨r,hrr⟩:∃ r,r = x j:=⟨_,rfl⟩;have HRR:Hid (r = x j):=hrr;rw [← hrr] at hiff
      have rdj:layRec.rd wr hi r (ce j):=by rw [hrr];exact layRec.rd_below (HR.out j j1) HBW.out hhi
      have hcl:(ce j).length = 9:=layRec.rd_len rdj;have hone:=layRec_one rdj
      have HSN:Hid (lvL x N (ns.take (k + 1)) = lvL x N (ns.take k) ++ (if r.length = -1 then [] else [j])):=by
        show lvL x N (ns.take (k + 1)) = lvL x N (ns.take k) ++ (if r.length = -1 then [] else [j])
        rw [take_snoc ns hkn,lvL_snoc,← hnk,← hj,hrr]
      have t1:(k:Int) < (M:Int):=by omega
      have i1:(0:Int) ≤ (k:Int):=by omega
      have bA:Below wr.heap.size wr (wr.alloc (.cells (ce j).toArray 129)):=(Below.refl _ _).alloc (Nat.le_refl _) _;have X6:Box (wr.alloc (.cells (ce j).toArray 129)) wr.heap.size (ce j).toArray 129:=box_new _ _ _
      have y3:(wr.alloc (.cells (ce j).toArray 129)).cell? ⟨wr.heap.size,3,none⟩ = some (.int .i64 r.length):=by
        obtain ⟨ao6,cap6,ao7,cap7,ao8,cap8,hce,-⟩:=Rec_rd rdj;rw [X6.cell 3,hce];rfl
      obtain ⟨W6,hW6⟩:∃ y,y = wr.alloc (.cells (ce j).toArray 129):=⟨_,rfl⟩;rw [← hW6] at bA X6 y3;have HBA:Hid (Below wr.heap.size wr W6):=bA;have z6:wr.heap.size < W6.heap.size:=X6.lt;have HX6:Hid (Box W6 wr.heap.size (ce j).toArray 129):=X6;have HV6:Hid (View layRec 81 W6 w2.heap.size hi (.slice au c cau) c (fun i => x ((lvL x N (ns.take k)).getD i 0)) cu):=HV.out.below bA (by omega);have rd6:layRec.rd W6 hi r (ce j):=layRec.rd_below rdj bA (by omega);have HB6:Hid (Below w2.heap.size w2 W6):=HB.out.trans (bA.mono zr);clear hV hb hc Lr hlook ye hmem j1 j2 j3 j4 hj hkl hnk hrr bA X6
      by_cases hm:r.length = -1
      · have HE:Hid (lvL x N (ns.take (k + 1)) = lvL x N (ns.take k)):=by
          show lvL x N (ns.take (k + 1)) = lvL x N (ns.take k)
          rw [HSN.out,if_pos hm,List.append_nil]
        have dm:(r.length != -1) = false:=by simp [hm]
        clear hm hiff
        go_wp2_with (refine wp_allocStore 129 6 (.tmp 23) (ce j) _ 9 rfl rfl rfl rfl rfl rfl (by simp [Act.eval,Act.put]) (by simp [Act.eval,Act.put]) info_IE rfl hcl hone ?_;rw [← hW6];clear hW6)
        go_roundw
        case rel => exact ⟨k + 1,cu,by omega,by go_num,by rw [HE.out,← HC.out];exact HV6.out,HB6.out⟩
        case measure => simp [intOf];omega
      · have HE:Hid (lvL x N (ns.take (k + 1)) = lvL x N (ns.take k) ++ [j]):=by
          show lvL x N (ns.take (k + 1)) = lvL x N (ns.take k) ++ [j]
          rw [HSN.out,if_neg hm]
        have dm:(r.length != -1) = true:=by simp [hm]
        have bS:Below W6.heap.size W6 (W6.alloc (.cells (ce j).toArray 81)):=(Below.refl _ _).alloc (Nat.le_refl _) _;obtain ⟨v8,w8,hrun,V8,_,b8⟩:=run_appendV el_Rec rdOne_rec 30 (HV6.out.below bS (by omega)) 1 (src_one (b:=W6.heap.size) (hi:=hi) (y:=r) (cs:=ce j) (fun q hq => ((box_new W6 (ce j).toArray 81).cell q).trans (by simp)) (layRec.rd_below rd6 bS (by omega))) (by simp;omega) (by omega) (by omega) (fun e => by cases e)
        have HV8:Hid (View layRec 81 w8 w2.heap.size hi v8 (c + 1) (fun i => x ((lvL x N (ns.take (k + 1))).getD i 0)) (cat2 cu c (fun _ => ce j))):=by
          refine V8.congr (fun i hi' => ?_);rw [HE.out]
          by_cases c1:i < c
          · rw [cat2_lt _ _ c1,getD_snoc_lt (by rw [← HC.out];exact c1)]
          · obtain rfl:i = c:=by omega
            have e9:=cat2_ge (fun i => x ((lvL x N (ns.take k)).getD i 0)) i (fun _ => r) 0;rw [Nat.add_zero] at e9;rw [e9,HRR.out];have:=@getD_snoc_at (lvL x N (ns.take k)) j;rw [← HC.out] at this;rw [this]
        have HB8:Hid (Below w2.heap.size w2 w8):=HB6.out.trans ((bS.mono (by omega)).trans b8);obtain ⟨a8,c8,hv8⟩:=V8.form;have HV8F:Hid (v8 = .slice a8 (c + 1) c8):=hv8;have rg6:W6.rangeAt wr.heap.size 0 (ce j):=rangeB HX6.out;clear V8 b8 bS hv8 hm hiff
        go_wp2_with (first | (refine wp_allocStore 129 6 (.tmp 23) (ce j) _ 9 rfl rfl rfl rfl rfl rfl (by simp [Act.eval,Act.put]) (by simp [Act.eval,Act.put]) info_IE rfl hcl hone ?_;rw [← hW6];clear hW6) | (refine wpList_load_mid rfl 81 (.tmp 31) rfl wr.heap.size 0 (by simp [Act.eval,Act.put]) (ce j) _ rg6 Tryz.underlying81 rfl (info_Rec9 hcl) ?_) | (refine wp_build1R rfl (.tmp 32) rfl rd6 (by simp [Act.eval,Act.put]) ?_) | (at_builtin;refine wp_run2 rfl (.tmp 29) (.tmp 33) rfl ?_ ?_ hrun ?_;(simp [Act.eval,Act.put]);(simp [Act.eval,Act.put])))
        clear hrun;go_wp2
        go_roundw
        case rel => exact ⟨k + 1,_,by omega,by go_num,by rw [show (lvL x N (ns.take (k + 1))).length = c + 1 by rw [HE.out,List.length_append,← HC.out];rfl];exact HV8.out,HB8.out⟩
        case measure => simp [intOf];omega
    · obtain rfl:k = M:=by omega
      have e:ns.take k = ns:=by rw [HM.out];exact List.take_length
      have HLV:Hid (Live x N (lvL x N (ns.take k))):=by
        show Live x N (lvL x N (ns.take k))
        rw [e];exact lv_live HNM.out HK.out
      have HV9:Hid (View layRec 81 wr w.heap.size hi (.slice au c cau) c (fun i => x ((lvL x N (ns.take k)).getD i 0)) cu):=⟨ownsRow_low HV.out.row z2,HV.out.each⟩;clear hV hb e;go_wp2;go_ret;exact ⟨_,cu,lvL x N (ns.take k),rfl,HLV.out,by rw [← HC.out];exact HV9.out,HBW.out⟩
end Go.Proofs.YtbjkjcfodljamaaGreat
namespace Go.Proofs.YtbjkjcfodljamaaGreat
open Go.RowKit F256
def LiveK (x:Nat → RecD) (N k:Nat) (l:List Nat):Prop:=(∀ i,i ∈ l ↔ i < k ∧ LiveP x N i) ∧ l.Pairwise (fun a b => nmL (x a) < nmL (x b))
theorem bl_eq (a b:ByteArray):Op.bytesLess a.toList b.toList = decide (a.data.toList < b.data.toList):=by
  rw [bytesLess_eq,ByteArray.toList_eq,ByteArray.toList_eq]
theorem LiveK.nil (x:Nat → RecD) (N:Nat):LiveK x N 0 []:=⟨fun i => ⟨(fun h => by cases h),(fun h => by omega)⟩,List.Pairwise.nil⟩
theorem LiveK.skip {x:Nat → RecD} {N k:Nat} {l:List Nat} (h:LiveK x N k l) (hn:¬ LiveP x N k):LiveK x N (k + 1) l :=
  ⟨fun i => by
    rw [h.1 i]
    constructor
    · rintro ⟨h1,h2⟩
      exact ⟨by omega,h2⟩
    · rintro ⟨h1,h2⟩
      refine ⟨?_,h2⟩
      by_cases e:i = k
      · subst e;exact absurd h2 hn
      · omega,h.2⟩
theorem LiveK.done {x:Nat → RecD} {N:Nat} {l:List Nat} (h:LiveK x N N l):Live x N l:=⟨fun i => by rw [h.1 i];exact ⟨fun h => h.2,fun h => ⟨h.1,h⟩⟩,h.2⟩
theorem LiveP.same {x:Nat → RecD} {N a b:Nat} (h:LiveP x N a) (k:LiveP x N b) (e:nmL (x a) = nmL (x b)):a = b:=by
  have e2:(x a).name = (x b).name:=by
    have h1:=bytesOf (x a).name;have h2:=bytesOf (x b).name;rw [← h1,← h2];exact congrArg (fun l:List UInt8 => (⟨l.toArray⟩:ByteArray)) e
  have h1:=h.2.2.2;have h2:=k.2.2.2;rw [e2,h2] at h1;omega
theorem LiveK.ins {x:Nat → RecD} {N M:Nat} {l:List Nat} (h:LiveK x N M l) (hp:LiveP x N M) (al:Nat) (hat:al ≤ l.length) (hbeh:∀ k,al ≤ k → k < l.length → nmL (x M) < nmL (x (l.getD k 0))) (hS:al = 0 ∨ ¬ nmL (x M) < nmL (x (l.getD (al - 1) 0))):LiveK x N (M + 1) (l.take al ++ M :: l.drop al):=by
  have hmem:∀ i,i ∈ l.take al ++ M :: l.drop al ↔ i = M ∨ i ∈ l:=fun i => by
    have e:i ∈ l ↔ i ∈ l.take al ∨ i ∈ l.drop al:=by
      rw [← List.mem_append,List.take_append_drop]
    rw [List.mem_append,List.mem_cons,e]
    constructor
    · rintro (h | h | h)
      · exact .inr (.inl h)
      · exact .inl h
      · exact .inr (.inr h)
    · rintro (h | h | h)
      · exact .inr (.inl h)
      · exact .inl h
      · exact .inr (.inr h)
  have hpl:=h.2;rw [← List.take_append_drop al l] at hpl;obtain ⟨p1,p2,p3⟩:=List.pairwise_append.1 hpl
  have hb:∀ a,a ∈ l.drop al → nmL (x M) < nmL (x a):=fun a ha => by
    obtain ⟨j,hj,rfl⟩:=List.getElem_of_mem ha;rw [List.length_drop] at hj;have:=hbeh (al + j) (by omega) (by omega);rw [List.getElem_drop];rw [List.getD_eq_getElem?_getD,List.getElem?_eq_getElem (by omega)] at this;exact this
  have ha:∀ a,a ∈ l.take al → nmL (x a) < nmL (x M):=fun a ha => by
    obtain ⟨j,hj,rfl⟩:=List.getElem_of_mem ha;rw [List.length_take] at hj;rw [List.getElem_take]
    have hal:al - 1 < l.length:=by omega
    have hlast:nmL (x (l[al - 1]'hal)) < nmL (x M):=by
      rcases hS with e | hS
      · omega
      · rw [List.getD_eq_getElem?_getD,List.getElem?_eq_getElem hal] at hS
        have hne:nmL (x (l[al - 1]'hal)) ≠ nmL (x M):=fun e => by
          have hm:=(h.1 _).1 (List.getElem_mem hal);have:=LiveP.same hm.2 hp e;omega
        apply Classical.byContradiction
        intro hn;exact hne (List.le_antisymm (List.not_lt.1 hS) (List.not_lt.1 hn))
    by_cases e:j = al - 1
    · subst e;exact hlast
    · have:=List.pairwise_iff_getElem.1 h.2 j (al - 1) (by omega) hal (by omega)
      exact List.lt_trans this hlast
  refine ⟨fun i => ?_,List.pairwise_append.2 ⟨p1,List.pairwise_cons.2 ⟨hb,p2⟩,fun a h1 b h2 => ?_⟩⟩
  · rw [hmem,h.1 i]
    constructor
    · rintro (rfl | ⟨h1,h2⟩)
      · exact ⟨by omega,hp⟩
      · exact ⟨by omega,h2⟩
    · rintro ⟨h1,h2⟩
      by_cases e:i = M
      · exact .inl e
      · exact .inr ⟨by omega,h2⟩
  · rcases List.mem_cons.1 h2 with rfl | h2
    · exact ha a h1
    · exact p3 a h1 b h2
theorem place_ex (p:Nat → Prop):∀ n,∃ al,al ≤ n ∧ (∀ k,al ≤ k → k < n → p k) ∧ (al = 0 ∨ ¬ p (al - 1))
  | 0 => ⟨0,Nat.le_refl _,fun k h1 h2 => by omega,.inl rfl⟩
  | n + 1 => by
    by_cases h:p n
    · obtain ⟨al,h1,h2,h3⟩:=place_ex p n
      exact ⟨al,by omega,fun k q1 q2 => by
        by_cases e:k = n
        · subst e;exact h
        · exact h2 k q1 (by omega),h3⟩
    · exact ⟨n + 1,Nat.le_refl _,fun k h1 h2 => by omega,.inr h⟩
theorem liveK_ex (x:Nat → RecD) (N:Nat):∀ k,∃ l,LiveK x N k l
  | 0 => ⟨_,LiveK.nil x N⟩
  | k + 1 => by
    obtain ⟨l,h⟩:=liveK_ex x N k
    by_cases hp:LiveP x N k
    · obtain ⟨al,h1,h2,h3⟩:=place_ex (fun i => nmL (x k) < nmL (x (l.getD i 0))) l.length
      exact ⟨_,h.ins hp al h1 h2 h3⟩
    · exact ⟨l,h.skip hp⟩
theorem live_ex (x:Nat → RecD) (N:Nat):∃ l,Live x N l:=by
  obtain ⟨l,h⟩:=liveK_ex x N N;exact ⟨l,h.done⟩
set_option maxHeartbeats 8000000 in
set_option maxRecDepth 100000 in
theorem l6Live_any (v:Value) (N:Nat) (x0:Nat → RecD) (hi:Nat) (w:World) (h:(layRec.slice 81).rd w hi (N,x0) [v]) (hhi:hi ≤ w.heap.size) (hNb:N ≤ 800000) :
    Calls Tryz.prog 28 #[v] w (fun e w' => ∃ v' l ce lo,e = .returned v' ∧ Live x0 N l ∧ w.heap.size ≤ lo ∧ View layRec 81 w' lo hi v' l.length (fun i => x0 (l.getD i 0)) ce ∧ Below w.heap.size w w'):=by
  obtain ⟨ao0,cap0,ev,_⟩:=h
  obtain rfl:v = .slice ao0 N cap0:=by simpa using ev
  have HRS:Hid (∀ w',Below w.heap.size w w' → (layRec.slice 81).rd w' hi (N,x0) [.slice ao0 N cap0]):=fun w' hb => Lay.rd_below _ ⟨ao0,cap0,ev,by assumption⟩ hb hhi;have bL:Below w.heap.size w (w.alloc (.cells #[] 81)):=(Below.refl _ _).alloc (Nat.le_refl _) _;have V0:=View.lit0 (E:=layRec) (t:=81) (fun i => x0 (([]:List Nat).getD i 0)) (fun _ => []) w hi;clear ev
  go_enter Tryz.func28,Tryz.ntmps28
  go_wp2
  go_loopw [3,4] (fun vo vi wr => ∃ (i lo:Nat) (l:List Nat) (co:Nat → List Value),i ≤ N ∧ vi = .int .i64 i ∧ w.heap.size ≤ lo ∧ lo ≤ wr.heap.size ∧ LiveK x0 N i l ∧ l.length ≤ i ∧ View layRec 81 wr lo hi vo l.length (fun i => x0 (l.getD i 0)) co ∧ Below w.heap.size w wr) (fun _ i _ => N - (intOf i).toNat)
  case atStart => exact ⟨0,w.heap.size,[],fun _ => [],Nat.zero_le _,rfl,Nat.le_refl _,bL.size,LiveK.nil x0 N,Nat.zero_le _,V0,bL⟩
  case round =>
        clear bL V0;obtain ⟨i,lo,l,co,hi',rfl,hlo,hlow,hLK,hLl,V,bw⟩:=hrel;obtain ⟨wi,rfl⟩:∃ y,y = wr:=⟨_,rfl⟩;obtain ⟨n,hn⟩:∃ n,n = l.length:=⟨_,rfl⟩;have HN:Hid (n = l.length):=hn;rw [← hn] at V hLl;have HLK:Hid (LiveK x0 N i l):=hLK;obtain ⟨ao,cap,hvo⟩:=V.form;subst hvo;have HV:Hid (View layRec 81 wi lo hi (.slice ao n cap) n (fun i => x0 (l.getD i 0)) co):=V;have HBW:Hid (Below w.heap.size w wi):=bw;have zr:w.heap.size ≤ wi.heap.size:=bw.size;have hrs:=HRS.out wi bw;clear hLK hn V bw
        by_cases hlt2:i < N
        · obtain ⟨cy,hS,-⟩:=src_of hrs
          obtain ⟨b,off,hrb,hcell⟩:=hS.1 (by omega);subst hrb;have rdR:=hS.2 i hlt2;have hcR:(cy i).length = 9:=layRec.rd_len rdR
          have rgR:wi.rangeAt b (off + i * 9) (cy i):=fun j v hv => by
            have hj:j < 9:=by rw [← hcR];exact (List.getElem?_eq_some_iff.1 hv).1
            have:=hcell i hlt2 j hj;rw [show off + (i * layRec.sz + j) = off + i * 9 + j from (Nat.add_assoc _ _ _).symm] at this;exact this.trans hv
          obtain ⟨cR,hcRe⟩:∃ c,c = cy i:=⟨_,rfl⟩;rw [← hcRe] at rgR hcR rdR;obtain ⟨M,hM⟩:∃ M,M = i:=⟨_,rfl⟩;have HMM:Hid (M = i):=hM;rw [← hM] at rdR HLK;have oneR:∀ v,v ∈ cR → v.oneCell' = true:=rdOne_rec _ _ _ _ rdR
          have i1:(0:Int) ≤ (i:Int):=by omega
          have i2:(i:Int) < (N:Int):=by omega
          have bA:Below wi.heap.size wi (wi.alloc (.cells cR.toArray 81)):=(Below.refl _ _).alloc (Nat.le_refl _) _;have XA:Box (wi.alloc (.cells cR.toArray 81)) wi.heap.size cR.toArray 81:=box_new _ _ _;have rdW:layRec.rd (wi.alloc (.cells cR.toArray 81)) hi (x0 M) cR:=layRec.rd_below rdR bA (by omega)
          have hML:M < N:=by omega
          clear hrs hS hcell hcRe rdR hM
          go_upto_region 6 with (first | (refine wpList_load_mid rfl 81 (.tmp 16) rfl b (off + i * 9) (by simp [Act.eval]) cR _ rgR Tryz.underlying81 rfl (info_Rec9 hcR) ?_) | (refine wp_allocStore 81 5 (.tmp 17) cR _ 9 rfl rfl rfl rfl rfl rfl rfl rfl info_RecZ rfl hcR oneR ?_))
          obtain ⟨W,hW⟩:∃ x,x = wi.alloc (.cells cR.toArray 81):=⟨_,rfl⟩;rw [← hW] at bA XA rdW ⊢;clear hW rgR;have VW:=HV.out.below bA (by omega);have zW':wi.heap.size < W.heap.size:=XA.lt;have HXW:Hid (Box W wi.heap.size cR.toArray 81):=XA;have HVW:Hid (View layRec 81 W lo hi (.slice ao n cap) n (fun i => x0 (l.getD i 0)) co):=VW;have HRW:Hid (layRec.rd W hi (x0 M) cR):=rdW;have HBW2:Hid (Below w.heap.size w W):=HBW.out.trans (bA.mono zr)
          have HCE:Hid (cR[0]? = some (.int .i64 (x0 M).kind) ∧ cR[2]? = some (.string (x0 M).name) ∧ cR[3]? = some (.int .i64 (x0 M).length)):=by
            obtain ⟨ao6,cap6,ao7,cap7,ao8,cap8,hce,-⟩:=Rec_rd rdW;rw [hce];exact ⟨rfl,rfl,rfl⟩
          obtain ⟨kd,hkd⟩:∃ k,k = (x0 M).kind:=⟨_,rfl⟩;obtain ⟨ln,hln⟩:∃ k,k = (x0 M).length:=⟨_,rfl⟩;obtain ⟨nm,hnm⟩:∃ k,k = (x0 M).name:=⟨_,rfl⟩
          have y0:W.cell? ⟨wi.heap.size,0,none⟩ = some (.int .i64 kd):=by rw [XA.cell 0,hkd];simpa using HCE.out.1
          have y2:W.cell? ⟨wi.heap.size,2,none⟩ = some (.string nm):=by rw [XA.cell 2,hnm];simpa using HCE.out.2.1
          have y3:W.cell? ⟨wi.heap.size,3,none⟩ = some (.int .i64 ln):=by rw [XA.cell 3,hln];simpa using HCE.out.2.2
          have HKD:Hid (kd = (x0 M).kind):=hkd;have HLN:Hid (ln = (x0 M).length):=hln;have HNM:Hid (nm = (x0 M).name):=hnm;clear VW XA rdW bA HV HBW hkd hln hnm
          by_cases ck:kd = 1
          case neg =>
            have d1:(kd != 1) = true:=by simp [ck]
            have HNO:Hid (¬ LiveP x0 N M):=fun q => ck (HKD.out.trans q.2.1);clear ck;go_wp2
            go_roundw
            case rel => exact ⟨i + 1,lo,l,co,by omega,by go_num,hlo,by omega,by rw [← HMM.out];exact HLK.out.skip HNO.out,by rw [← HN.out];omega,by rw [← HN.out];exact HVW.out,HBW2.out⟩
            case measure => simp [intOf];omega
          have d1:(kd != 1) = false:=by simp [ck]
          have HCK:Hid (kd = 1):=ck;clear ck
          by_cases cl:ln < 0
          case pos =>
            have HNO:Hid (¬ LiveP x0 N M):=fun q => q.2.2.1 (by rw [← HLN.out];exact cl);go_wp2
            go_roundw
            case rel => exact ⟨i + 1,lo,l,co,by omega,by go_num,hlo,by omega,by rw [← HMM.out];exact HLK.out.skip HNO.out,by rw [← HN.out];omega,by rw [← HN.out];exact HVW.out,HBW2.out⟩
            case measure => simp [intOf];omega
          have HCL:Hid (¬ ln < 0):=cl;have CN:=l6Newest_any (.slice (some ⟨b,off,none⟩) N cap0) N x0 nm hi W (HRS.out W HBW2.out) (by omega) (by omega);obtain ⟨at9,hat9⟩:∃ a,a = lastI (itm x0 nm) N:=⟨_,rfl⟩;have HAT9:Hid (at9 = lastI (itm x0 nm) N):=hat9;rw [← hat9] at CN;clear hat9
          go_wp2_with fail
          refine CN.mono ?_;rintro ee w5 ⟨rfl,b5⟩;have z5:W.heap.size ≤ w5.heap.size:=b5.size;have HV5:Hid (View layRec 81 w5 lo hi (.slice ao n cap) n (fun i => x0 (l.getD i 0)) co):=HVW.out.below b5 (by omega);have HX5:Hid (Box w5 wi.heap.size cR.toArray 81):=HXW.out.below b5 zW';have HR5:Hid (layRec.rd w5 hi (x0 M) cR):=layRec.rd_below HRW.out b5 (by omega);have HB5:Hid (Below w.heap.size w w5):=HBW2.out.trans (b5.mono (by omega));clear b5 CN HVW HXW HRW HBW2 y0 y2 y3
          by_cases ca:at9 = (i:Int)
          case neg =>
            have da:(at9 != (i:Int)) = true:=by simp [ca]
            have HNO:Hid (¬ LiveP x0 N M):=fun q => ca (by rw [HAT9.out,HNM.out,q.2.2.2,HMM.out]);have HVW:=HV5;have HBW2:=HB5;clear ca;go_wp2
            go_roundw
            case rel => exact ⟨i + 1,lo,l,co,by omega,by go_num,hlo,by omega,by rw [← HMM.out];exact HLK.out.skip HNO.out,by rw [← HN.out];omega,by rw [← HN.out];exact HVW.out,HBW2.out⟩
            case measure => simp [intOf];omega
          have da:(at9 != (i:Int)) = false:=by simp [ca]
          have HF:Hid (LiveP x0 N M):=⟨hML,by rw [← HKD.out];exact HCK.out,by rw [← HLN.out];omega,by rw [← HNM.out,← HAT9.out,ca,HMM.out]⟩;clear ca cl;go_wp2
          go_loopw [6] (fun va wx => ∃ at_:Nat,at_ ≤ n ∧ va = .int .i64 at_ ∧ (∀ k,at_ ≤ k → k < n → nmL (x0 M) < nmL (x0 (l.getD k 0))) ∧ Below w5.heap.size w5 wx) (fun va _ => (intOf va).toNat)
          case atStart => exact ⟨n,Nat.le_refl _,by go_num,fun k h1 h2 => by omega,Below.refl _ _⟩
          case round =>
              obtain ⟨at_,hat,rfl,hbeh,bx⟩:=hrel;obtain ⟨wx,rfl⟩:∃ y,y = wr:=⟨_,rfl⟩;have HBE:Hid (∀ k,at_ ≤ k → k < n → nmL (x0 M) < nmL (x0 (l.getD k 0))):=hbeh;have zx:w5.heap.size ≤ wx.heap.size:=bx.size;have HVx:Hid (View layRec 81 wx lo hi (.slice ao n cap) n (fun i => x0 (l.getD i 0)) co):=HV5.out.below bx (by omega);have HXx:Hid (Box wx wi.heap.size cR.toArray 81):=HX5.out.below bx (by omega);have HRx:Hid (layRec.rd wx hi (x0 M) cR):=layRec.rd_below HR5.out bx (by omega);have HBx:Hid (Below w.heap.size w wx):=HB5.out.trans (bx.mono (by omega));have HB5x:Hid (Below w5.heap.size w5 wx):=bx;have bD:Below wx.heap.size wx wx.drew:=⟨rfl,rfl,rfl,Nat.le_refl _,fun _ _ => rfl⟩;clear hbeh bx
              by_cases hat0:at_ = 0
              · have d1:decide (0 < at_) = false:=decide_eq_false (by omega)
                have d2:decide ((0:Int) < (at_:Int)) = false:=decide_eq_false (by omega);have HS:Hid (at_ = 0 ∨ ¬ nmL (x0 M) < nmL (x0 (l.getD (at_ - 1) 0))):=.inl hat0;clear hat0
                go_upto_region 8 with fail
                refine wp_region_M 13 (fun w' => True) mixedO trivial (fun hHeld => ?_);refine wpAnyM_pure (i:=0) (oi:=_) (v:=?_) rfl (by kernel_rfl) (fun _ _ _ h => h) (Or.inl ⟨by kernel_rfl,?_⟩) (by assumption) ?_
                rotate_left
                · intro w' hSw;go_simp;try with_reducible rfl
                try simp only [Act.put,SL]
                refine wpAnyM_pure (i:=1) (oi:=_) (v:=?_) rfl (by kernel_rfl) (fun _ _ _ h => h) (Or.inl ⟨by kernel_rfl,?_⟩) (by assumption) ?_
                rotate_left
                · intro w' hSw;go_simp;try with_reducible rfl
                try simp only [Act.put,SL]
                try rw [d1]
                refine wpAnyM_pure (i:=2) (oi:=_) (v:=?_) rfl (by kernel_rfl) (fun _ _ _ h => h) (Or.inl ⟨by kernel_rfl,?_⟩) (by assumption) ?_
                rotate_left
                · intro w' hSw;go_simp;try with_reducible rfl
                try simp only [Act.put,SL]
                refine wpAnyM_pure (i:=3) (oi:=_) (v:=undef) rfl (by kernel_rfl) (fun _ _ _ h => h) (Or.inr ⟨by kernel_rfl,rfl⟩) (by assumption) ?_
                try simp only [Act.put,SL]
                refine wpAnyM_pure (i:=4) (oi:=_) (v:=undef) rfl (by kernel_rfl) (fun _ _ _ h => h) (Or.inr ⟨by kernel_rfl,rfl⟩) (by assumption) ?_
                try simp only [Act.put,SL]
                refine wpAnyM_pure (i:=5) (oi:=_) (v:=undef) rfl (by kernel_rfl) (fun _ _ _ h => h) (Or.inr ⟨by kernel_rfl,rfl⟩) (by assumption) ?_
                try simp only [Act.put,SL]
                refine wpAnyM_pure (i:=6) (oi:=_) (v:=undef) rfl (by kernel_rfl) (fun _ _ _ h => h) (Or.inr ⟨by kernel_rfl,rfl⟩) (by assumption) ?_
                try simp only [Act.put,SL]
                refine wpAnyM_pure (i:=7) (oi:=_) (v:=undef) rfl (by kernel_rfl) (fun _ _ _ h => h) (Or.inr ⟨by kernel_rfl,rfl⟩) (by assumption) ?_
                try simp only [Act.put,SL]
                refine wpAnyM_pure (i:=8) (oi:=_) (v:=undef) rfl (by kernel_rfl) (fun _ _ _ h => h) (Or.inr ⟨by kernel_rfl,rfl⟩) (by assumption) ?_
                try simp only [Act.put,SL]
                refine wpAnyM_pure (i:=9) (oi:=_) (v:=undef) rfl (by kernel_rfl) (fun _ _ _ h => h) (Or.inr ⟨by kernel_rfl,rfl⟩) (by assumption) ?_
                try simp only [Act.put,SL]
                refine wpAnyM_pure (i:=10) (oi:=_) (v:=undef) rfl (by kernel_rfl) (fun _ _ _ h => h) (Or.inr ⟨by kernel_rfl,rfl⟩) (by assumption) ?_
                try simp only [Act.put,SL]
                refine wpAnyM_pure (i:=11) (oi:=_) (v:=undef) rfl (by kernel_rfl) (fun _ _ _ h => h) (Or.inr ⟨by kernel_rfl,rfl⟩) (by assumption) ?_
                try simp only [Act.put,SL]
                refine wpAnyM_pure (i:=12) (oi:=_) (v:=?_) rfl (by kernel_rfl) (fun _ _ _ h => h) (Or.inl ⟨by kernel_rfl,?_⟩) (by assumption) ?_
                rotate_left
                · intro w' hSw;go_simp;try with_reducible rfl
                try simp only [Act.put,SL]
                refine wpAnyM_done (by kernel_rfl) ?_ _;obtain ⟨w9,hw9⟩:∃ x,x = wx.drew:=⟨_,rfl⟩;rw [← hw9] at bD ⊢;have b9:Below wx.heap.size wx w9:=bD;clear bD hw9 hHeld d1 d2;have z9:wx.heap.size ≤ w9.heap.size:=b9.size;have V9:=(HVx.out.below b9 (by omega)).drew;have b9':Below wx.heap.size wx w9.drew:=b9.trans (show Below wx.heap.size w9 w9.drew from ⟨rfl,rfl,rfl,Nat.le_refl _,fun _ _ => rfl⟩);have X9:Box w9.drew wi.heap.size cR.toArray 81:=HXx.out.below b9' (by omega);have R9:layRec.rd w9.drew hi (x0 M) cR:=layRec.rd_below HRx.out b9' (by omega);have B9:Below w.heap.size w w9.drew:=HBx.out.trans (b9'.mono (by omega))
                have rg9:w9.drew.rangeAt wi.heap.size 0 cR:=fun j v hv => by
                  have:=(X9.cell j).trans (by simpa using hv);rw [Nat.zero_add];exact this
                obtain ⟨D,hD⟩:∃ D,D = w9.drew:=⟨_,rfl⟩;have HD:Hid (D = w9.drew):=hD;rw [← hD] at V9 X9 R9 B9 rg9
                have zD:w9.heap.size = D.heap.size:=by rw [hD];rfl
                clear hD b9 b9';obtain ⟨aU,cU,hUr,sU,hUz⟩:=V9.upto_ (show hi ≤ D.heap.size by omega) (al:=at_) hat;obtain ⟨aF,cF,hFr,sF,rF,hFz⟩:=V9.from_ (show hi ≤ D.heap.size by omega) (al:=at_) hat
                have hAU:∀ b off,aU = some ⟨b,off,none⟩ → b < D.heap.size:=fun b off e => by
                  rcases V9.form2 with ⟨e3,e4⟩ | ⟨g,cp,e3,e4,hg⟩
                  · have hz:at_ = 0:=by omega
                    have:=hUr D;rw [e3,hz,run_upto0 D] at this
                    simp only [Result.ok.injEq,Value.slice.injEq,and_true] at this
                    rw [← this.1] at e
                    cases e
                  · have:=hUr D
                    rw [e3,run_upto9 g n cp at_ hat e4 D] at this
                    simp only [Result.ok.injEq,Value.slice.injEq,and_true] at this
                    rw [← this.1] at e
                    cases e
                    exact hg
                have hAF:∀ b off,aF = some ⟨b,off,none⟩ → b < D.heap.size:=fun b off e => by
                  rcases V9.form2 with ⟨e3,e4⟩ | ⟨g,cp,e3,e4,hg⟩
                  · have hz:at_ = 0:=by omega
                    have:=hFr D;rw [e3,hz,run_from0 D] at this
                    simp only [Result.ok.injEq,Value.slice.injEq,and_true] at this
                    rw [← this.1] at e
                    cases e
                  · have:=hFr D
                    rw [e3,run_from9 g n cp at_ hat D] at this
                    simp only [Result.ok.injEq,Value.slice.injEq,and_true] at this
                    rw [← this.1] at e
                    split at e <;> cases e <;> exact hg
                have hiD:hi ≤ D.heap.size:=by omega
                have hpD:wi.heap.size < D.heap.size:=X9.lt
                have hatL:at_ ≤ l.length:=by rw [← HN.out];exact hat
                have HCN:Hid (LiveK x0 N (M + 1) (l.take at_ ++ M :: l.drop at_)):=HLK.out.ins HF.out at_ hatL (fun k h1 h2 => HBE.out k h1 (by rw [HN.out];exact h2)) HS.out;have HRd:Hid (layRec.rd D hi (x0 M) cR):=R9;have HBD:Hid (Below w.heap.size w D):=B9;have HUS:Hid (Src layRec D hi aU at_ (fun i => x0 (l.getD i 0)) co):=sU;have HFS:Hid (Src layRec D hi aF (n - at_) (fun j => x0 (l.getD (at_ + j) 0)) (fun j => co (at_ + j))):=sF;clear V9 X9 R9 B9 sU sF rF
                go_upto_region 10 with fail
                refine wp_region_M 7 (fun w' => w'.rangeAt wi.heap.size 0 cR) mixedO (by rw [← HD.out];exact rg9) (fun hHeld => ?_);rw [← HD.out] at hHeld ⊢;refine wpAnyM_pure (i:=1) (oi:=_) (v:=?_) rfl (by kernel_rfl) (fun _ _ _ h => h) (Or.inl ⟨by kernel_rfl,?_⟩) (by assumption) ?_
                rotate_left
                · intro w' hSw;go_simp;try with_reducible rfl
                try simp only [Act.put,SL]
                refine wpAnyM_pure (i:=2) (oi:=_) (v:=?_) rfl (by kernel_rfl) (fun _ _ _ h => h) (Or.inl ⟨by kernel_rfl,?_⟩) (by assumption) ?_
                rotate_left
                · intro w' hSw;go_simp;try with_reducible rfl
                try simp only [Act.put,SL]
                refine wpAnyM_pure (i:=3) (oi:=_) (v:=?_) rfl (by kernel_rfl) (fun _ _ _ h => h) (Or.inl ⟨by kernel_rfl,?_⟩) (by assumption) ?_
                rotate_left
                · intro w' hSw
                  try rw [show (Instr.slice 30 (.slice ao n cap) none (some (.int .i64 (at_:Int))) none).run Tryz.prog w' = _ from hUr w']
                  have hSl':=hUr w';go_simp
                  try with_reducible rfl
                try simp only [Act.put,SL]
                refine wpAnyM_take (i:=5) (oi:=_) (v:=.agg cR.toArray) 16 rfl (by kernel_rfl) (fun _ _ _ h => h) (yieldsIf_load_mid (by kernel_rfl) 81 (.tmp 5) rfl wi.heap.size (0) (by simp [Act.eval,Act.put]) cR _ (fun w h => h) Tryz.underlying81 rfl (info_Rec9 hcR)) (by assumption) ?_
                try simp only [Act.put,SL]
                refine wpAnyM_pure (i:=8) (oi:=_) (v:=?_) rfl (by kernel_rfl) (fun _ _ _ h => h) (Or.inl ⟨by kernel_rfl,?_⟩) (by assumption) ?_
                rotate_left
                · intro w' hSw;go_simp;try with_reducible rfl
                try simp only [Act.put,SL]
                refine wpAnyM_pure (i:=9) (oi:=_) (v:=?_) rfl (by kernel_rfl) (fun _ _ _ h => h) (Or.inl ⟨by kernel_rfl,?_⟩) (by assumption) ?_
                rotate_left
                · intro w' hSw;go_simp;try with_reducible rfl
                try simp only [Act.put,SL]
                refine wpAnyM_pure (i:=10) (oi:=_) (v:=?_) rfl (by kernel_rfl) (fun _ _ _ h => h) (Or.inl ⟨by kernel_rfl,?_⟩) (by assumption) ?_
                rotate_left
                · intro w' hSw
                  try rw [show (Instr.slice 30 (.slice ao n cap) (some (.int .i64 (at_:Int))) none none).run Tryz.prog w' = _ from hFr w']
                  have hSl':=hFr w';go_simp
                  try with_reducible rfl
                try simp only [Act.put,SL]
                refine wpAnyM_twoS (i:=0) (j:=6) (o:=_) (o':=_) rfl rfl (by kernel_rfl) (fun KC hKC => ?_) (fun KC hKC => ?_)
                · refine step_build0 rfl rfl ?_
                  have bA:Below D.heap.size D (D.alloc (.cells #[] 81)):=(Below.refl _ _).alloc (Nat.le_refl _) _;refine hKC _ _ (range_below rg9 bA hpD) ?_;clear hKC KC
                  try simp only [Act.put,SL]
                  have VL:=View.lit0 (E:=layRec) (t:=81) (fun i => x0 (l.getD i 0)) co D hi;have zA1:D.heap.size < (D.alloc (.cells #[] 81)).heap.size:=(box_new D #[] 81).lt;obtain ⟨D1,hD1⟩:∃ x,x = D.alloc (.cells #[] 81):=⟨_,rfl⟩;rw [← hD1] at bA VL zA1 ⊢;clear hD1;refine wpAnyM_twoS (i:=4) (j:=6) (o:=_) (o':=_) rfl rfl (by kernel_rfl) (fun KC hKC => ?_) (fun KC hKC => ?_)
                  · skip
                    obtain ⟨v4,w4,cv4,runv4,V4,bw4⟩:=ins_up (lo:=lo) HUS.out hUz hAU bA hiD (by omega) VL;refine step_run2 rfl (.tmp 51) (.tmp 54) rfl (by simp [Act.eval,Act.put]) (by simp [Act.eval,Act.put]) runv4 ?_;have b4D:=bA.trans bw4;refine hKC _ _ (range_below rg9 b4D hpD) ?_;clear hKC KC
                    try simp only [Act.put,SL]
                    refine wpAnyM_oneS (i:=6) (o:=_) rfl (by kernel_rfl) (fun KC hKC => ?_);refine step_build1R rfl (.tmp 56) rfl HRd.out (by simp [Act.eval,Act.put]) ?_;have b6:Below w4.heap.size w4 (w4.alloc (.cells cR.toArray 81)):=(Below.refl _ _).alloc (Nat.le_refl _) _;have b6D:=b4D.trans (b6.mono b4D.size);refine hKC _ _ (range_below rg9 b6D hpD) ?_;clear hKC KC
                    try simp only [Act.put,SL]
                    have V6:=V4.below b6 (by have:=b4D.size;omega);have X6:Box (w4.alloc (.cells cR.toArray 81)) w4.heap.size cR.toArray 81:=box_new _ _ _;obtain ⟨v7,w7,cv7,runv7,V7,bw7⟩:=ins_one b6D hiD (by omega) V6 X6 (layRec.rd_below HRd.out b6D hiD);refine wpAnyM_one (i:=7) (o:=_) rfl (by kernel_rfl) (by kernel_rfl) (fun KC hKC => ?_);refine step_run2 rfl (.tmp 55) (.tmp 57) rfl (by simp [Act.eval,Act.put]) (by simp [Act.eval,Act.put]) runv7 ?_;refine hKC _ _ ?_;clear hKC KC
                    try simp only [Act.put,SL]
                    have b7D:=b6D.trans bw7;obtain ⟨v8,w8,cv8,runv8,V8,bw8⟩:=ins_rest HFS.out hFz hAF b7D hiD (by omega) V7;refine wpAnyM_one (i:=11) (o:=_) rfl (by kernel_rfl) (by kernel_rfl) (fun KC hKC => ?_);refine step_run2 rfl (.tmp 58) (.tmp 61) rfl (by simp [Act.eval,Act.put]) (by simp [Act.eval,Act.put]) runv8 ?_;refine hKC _ _ ?_;clear hKC KC
                    try simp only [Act.put,SL]
                    refine wpAnyM_pureL (i:=12) (oi:=_) (v:=?_) rfl (by kernel_rfl) (fun _ _ _ h => h) (Or.inl ⟨by kernel_rfl,?_⟩) ?_
                    rotate_left
                    · intro w' hSw;go_simp;try with_reducible rfl
                    try simp only [Act.put,SL]
                    refine wpAnyM_done (by kernel_rfl) ?_ _
                    have HV8:Hid (View layRec 81 w8 D.heap.size hi v8 (l.take at_ ++ M :: l.drop at_).length (fun i => x0 ((l.take at_ ++ M :: l.drop at_).getD i 0)) cv8):=by
                      show View _ _ _ _ _ _ _ _ _
                      rw [ins_len l M at_ hatL,← HN.out];exact V8.congr (fun i _ => ins_getD x0 l M at_ hatL i)
                    have HB8:Hid (Below w.heap.size w w8):=HBD.out.trans ((b7D.trans bw8).mono (by omega));have z8:D.heap.size ≤ w8.heap.size:=(b7D.trans bw8).size
                    have HLn:Hid ((l.take at_ ++ M :: l.drop at_).length ≤ i + 1):=by
                      show (l.take at_ ++ M :: l.drop at_).length ≤ i + 1
                      rw [ins_len l M at_ hatL,← HN.out];omega
                    clear V8 V7 bw7 bw8 b7D hHeld runv7 runv8 hUr hFr hUz hFz hAU hAF rg9 HUS HFS HRd HBD;go_wp2
                    go_roundw
                    case rel => exact ⟨i + 1,D.heap.size,l.take at_ ++ M :: l.drop at_,cv8,by omega,by go_num,by omega,z8,by rw [← HMM.out];exact HCN.out,HLn.out,HV8.out,HB8.out⟩
                    case measure => simp [intOf];omega
                  · refine step_build1R rfl (.tmp 56) rfl HRd.out (by simp [Act.eval,Act.put]) ?_
                    have b6:Below D1.heap.size D1 (D1.alloc (.cells cR.toArray 81)):=(Below.refl _ _).alloc (Nat.le_refl _) _;have b6D:=bA.trans (b6.mono bA.size);refine hKC _ _ (range_below rg9 b6D hpD) ?_;clear hKC KC
                    try simp only [Act.put,SL]
                    have VL6:=VL.below b6 (by have:=bA.size;omega);have X6:Box (D1.alloc (.cells cR.toArray 81)) D1.heap.size cR.toArray 81:=box_new _ _ _;have z6:D1.heap.size < (D1.alloc (.cells cR.toArray 81)).heap.size:=X6.lt;have zA:=bA.size;obtain ⟨D2,hD2⟩:∃ x,x = D1.alloc (.cells cR.toArray 81):=⟨_,rfl⟩;rw [← hD2] at b6 b6D VL6 X6 z6 ⊢;clear hD2;have XK:=X6;obtain ⟨v4,w4,cv4,runv4,⟨V4,X4⟩,bw4⟩:=ins_up4 HUS.out hUz hAU b6D hiD (by omega) VL6 X6 (fun h => by simp [Value.ownBlock] at h;omega);refine wpAnyM_oneS (i:=4) (o:=_) rfl (by kernel_rfl) (fun KC hKC => ?_);refine step_run2 rfl (.tmp 51) (.tmp 54) rfl (by simp [Act.eval,Act.put]) (by simp [Act.eval,Act.put]) runv4 ?_;have b4D:=b6D.trans bw4;refine hKC _ _ (range_below rg9 b4D hpD) ?_;clear hKC KC
                    try simp only [Act.put,SL]
                    obtain ⟨v7,w7,cv7,runv7,V7,bw7⟩:=ins_one b4D hiD (by omega) V4 X4 (layRec.rd_below HRd.out b4D hiD);refine wpAnyM_one (i:=7) (o:=_) rfl (by kernel_rfl) (by kernel_rfl) (fun KC hKC => ?_);refine step_run2 rfl (.tmp 55) (.tmp 57) rfl (by simp [Act.eval,Act.put]) (by simp [Act.eval,Act.put]) runv7 ?_;refine hKC _ _ ?_;clear hKC KC
                    try simp only [Act.put,SL]
                    have b7D:=b4D.trans bw7;obtain ⟨v8,w8,cv8,runv8,V8,bw8⟩:=ins_rest HFS.out hFz hAF b7D hiD (by omega) V7;refine wpAnyM_one (i:=11) (o:=_) rfl (by kernel_rfl) (by kernel_rfl) (fun KC hKC => ?_);refine step_run2 rfl (.tmp 58) (.tmp 61) rfl (by simp [Act.eval,Act.put]) (by simp [Act.eval,Act.put]) runv8 ?_;refine hKC _ _ ?_;clear hKC KC
                    try simp only [Act.put,SL]
                    refine wpAnyM_pureL (i:=12) (oi:=_) (v:=?_) rfl (by kernel_rfl) (fun _ _ _ h => h) (Or.inl ⟨by kernel_rfl,?_⟩) ?_
                    rotate_left
                    · intro w' hSw;go_simp;try with_reducible rfl
                    try simp only [Act.put,SL]
                    refine wpAnyM_done (by kernel_rfl) ?_ _
                    have HV8:Hid (View layRec 81 w8 D.heap.size hi v8 (l.take at_ ++ M :: l.drop at_).length (fun i => x0 ((l.take at_ ++ M :: l.drop at_).getD i 0)) cv8):=by
                      show View _ _ _ _ _ _ _ _ _
                      rw [ins_len l M at_ hatL,← HN.out];exact V8.congr (fun i _ => ins_getD x0 l M at_ hatL i)
                    have HB8:Hid (Below w.heap.size w w8):=HBD.out.trans ((b7D.trans bw8).mono (by omega));have z8:D.heap.size ≤ w8.heap.size:=(b7D.trans bw8).size
                    have HLn:Hid ((l.take at_ ++ M :: l.drop at_).length ≤ i + 1):=by
                      show (l.take at_ ++ M :: l.drop at_).length ≤ i + 1
                      rw [ins_len l M at_ hatL,← HN.out];omega
                    clear V8 V7 bw7 bw8 b7D hHeld runv7 runv8 hUr hFr hUz hFz hAU hAF rg9 HUS HFS HRd HBD;go_wp2
                    go_roundw
                    case rel => exact ⟨i + 1,D.heap.size,l.take at_ ++ M :: l.drop at_,cv8,by omega,by go_num,by omega,z8,by rw [← HMM.out];exact HCN.out,HLn.out,HV8.out,HB8.out⟩
                    case measure => simp [intOf];omega
                · refine step_build1R rfl (.tmp 56) rfl HRd.out (by simp [Act.eval,Act.put]) ?_
                  have bA:Below D.heap.size D (D.alloc (.cells cR.toArray 81)):=(Below.refl _ _).alloc (Nat.le_refl _) _;refine hKC _ _ (range_below rg9 bA hpD) ?_;clear hKC KC
                  try simp only [Act.put,SL]
                  have XA:Box (D.alloc (.cells cR.toArray 81)) D.heap.size cR.toArray 81:=box_new _ _ _;have zA:D.heap.size < (D.alloc (.cells cR.toArray 81)).heap.size:=XA.lt;obtain ⟨D1,hD1⟩:∃ x,x = D.alloc (.cells cR.toArray 81):=⟨_,rfl⟩;rw [← hD1] at bA XA zA ⊢;clear hD1;refine wpAnyM_oneS (i:=0) (o:=_) rfl (by kernel_rfl) (fun KC hKC => ?_);refine step_build0 rfl rfl ?_;have b6:Below D1.heap.size D1 (D1.alloc (.cells #[] 81)):=(Below.refl _ _).alloc (Nat.le_refl _) _;have b6D:=bA.trans (b6.mono bA.size);refine hKC _ _ (range_below rg9 b6D hpD) ?_;clear hKC KC
                  try simp only [Act.put,SL]
                  have VL:=(View.lit0 (E:=layRec) (t:=81) (fun i => x0 (l.getD i 0)) co D1 hi).weakL (lo':=D.heap.size) (by omega);have X6:=XA.below b6 zA;obtain ⟨D2,hD2⟩:∃ x,x = D1.alloc (.cells #[] 81):=⟨_,rfl⟩;rw [← hD2] at b6 b6D VL X6 ⊢;clear hD2;obtain ⟨v4,w4,cv4,runv4,⟨V4,X4⟩,bw4⟩:=ins_up4 HUS.out hUz hAU b6D hiD (by omega) VL X6 (fun h => by simp [Value.ownBlock] at h;omega);refine wpAnyM_oneS (i:=4) (o:=_) rfl (by kernel_rfl) (fun KC hKC => ?_);refine step_run2 rfl (.tmp 51) (.tmp 54) rfl (by simp [Act.eval,Act.put]) (by simp [Act.eval,Act.put]) runv4 ?_;have b4D:=b6D.trans bw4;refine hKC _ _ (range_below rg9 b4D hpD) ?_;clear hKC KC
                  try simp only [Act.put,SL]
                  obtain ⟨v7,w7,cv7,runv7,V7,bw7⟩:=ins_one b4D hiD (by omega) V4 X4 (layRec.rd_below HRd.out b4D hiD);refine wpAnyM_one (i:=7) (o:=_) rfl (by kernel_rfl) (by kernel_rfl) (fun KC hKC => ?_);refine step_run2 rfl (.tmp 55) (.tmp 57) rfl (by simp [Act.eval,Act.put]) (by simp [Act.eval,Act.put]) runv7 ?_;refine hKC _ _ ?_;clear hKC KC
                  try simp only [Act.put,SL]
                  have b7D:=b4D.trans bw7;obtain ⟨v8,w8,cv8,runv8,V8,bw8⟩:=ins_rest HFS.out hFz hAF b7D hiD (by omega) V7;refine wpAnyM_one (i:=11) (o:=_) rfl (by kernel_rfl) (by kernel_rfl) (fun KC hKC => ?_);refine step_run2 rfl (.tmp 58) (.tmp 61) rfl (by simp [Act.eval,Act.put]) (by simp [Act.eval,Act.put]) runv8 ?_;refine hKC _ _ ?_;clear hKC KC
                  try simp only [Act.put,SL]
                  refine wpAnyM_pureL (i:=12) (oi:=_) (v:=?_) rfl (by kernel_rfl) (fun _ _ _ h => h) (Or.inl ⟨by kernel_rfl,?_⟩) ?_
                  rotate_left
                  · intro w' hSw;go_simp;try with_reducible rfl
                  try simp only [Act.put,SL]
                  refine wpAnyM_done (by kernel_rfl) ?_ _
                  have HV8:Hid (View layRec 81 w8 D.heap.size hi v8 (l.take at_ ++ M :: l.drop at_).length (fun i => x0 ((l.take at_ ++ M :: l.drop at_).getD i 0)) cv8):=by
                    show View _ _ _ _ _ _ _ _ _
                    rw [ins_len l M at_ hatL,← HN.out];exact V8.congr (fun i _ => ins_getD x0 l M at_ hatL i)
                  have HB8:Hid (Below w.heap.size w w8):=HBD.out.trans ((b7D.trans bw8).mono (by omega));have z8:D.heap.size ≤ w8.heap.size:=(b7D.trans bw8).size
                  have HLn:Hid ((l.take at_ ++ M :: l.drop at_).length ≤ i + 1):=by
                    show (l.take at_ ++ M :: l.drop at_).length ≤ i + 1
                    rw [ins_len l M at_ hatL,← HN.out];omega
                  clear V8 V7 bw7 bw8 b7D hHeld runv7 runv8 hUr hFr hUz hFz hAU hAF rg9 HUS HFS HRd HBD;go_wp2
                  go_roundw
                  case rel => exact ⟨i + 1,D.heap.size,l.take at_ ++ M :: l.drop at_,cv8,by omega,by go_num,by omega,z8,by rw [← HMM.out];exact HCN.out,HLn.out,HV8.out,HB8.out⟩
                  case measure => simp [intOf];omega
              · obtain ⟨A,hA⟩:∃ A,at_ = A + 1:=⟨at_ - 1,by omega⟩
                subst hA
                have hAn:A < n:=by omega
                have VD:=HVx.out.drew;obtain ⟨gO,cO',hgO⟩:=VD.form0 (by omega)
                have rgO:wx.drew.rangeAt gO (A * 9) (co A):=by rw [hgO] at VD;exact VD.range hAn
                obtain ⟨rfl,rfl⟩:ao = some ⟨gO,0,none⟩ ∧ cap = cO':=by simpa using hgO
                obtain ⟨rA,hrA⟩:∃ r,r = x0 (l.getD A 0):=⟨_,rfl⟩;have HRA:Hid (rA = x0 (l.getD A 0)):=hrA
                have q2D:wx.drew.cell? ⟨gO,A * 9 + 2,none⟩ = some (.string rA.name):=by
                  rw [hrA];obtain ⟨ao6,cap6,ao7,cap7,ao8,cap8,hce,-⟩:=Rec_rd (VD.each A hAn);exact rgO 2 _ (by rw [hce];rfl)
                have q1D:wx.drew.cell? ⟨wi.heap.size,2,none⟩ = some (.string (x0 M).name):=by
                  have:=HXx.out.cell 2;have h2:=HCE.out.2.1;exact this.trans (by simpa using h2)
                obtain ⟨t,ht⟩:∃ t,t = Op.bytesLess (x0 M).name.toList rA.name.toList:=⟨_,rfl⟩
                have HT:Hid (t = true ↔ nmL (x0 M) < nmL (x0 (l.getD A 0))):=by
                  show t = true ↔ nmL (x0 M) < nmL (x0 (l.getD A 0))
                  rw [ht,bl_eq,hrA,decide_eq_true_eq]
                clear hrA;have d1:decide (0 < A + 1) = true:=decide_eq_true (by omega);have d2:decide ((0:Int) < ((A + 1:Nat):Int)) = true:=decide_eq_true (by omega);have wP:IntKind.i64.wrap (((A + 1:Nat):Int) - 1) = (A:Int):=wrapPred (by omega)
                have wP':IntKind.i64.wrap ((A:Int) + 1 - 1) = (A:Int):=by rw [IntKind.wrap_i64];omega
                have wA:IntKind.i64.wrap (A:Int) = (A:Int):=by rw [IntKind.wrap_i64];omega
                have i3:(0:Int) ≤ (A:Int):=by omega
                have i4:(A:Int) < (n:Int):=by omega
                clear VD hgO
                go_upto_region 8 with fail
                refine wp_region_M 13 (fun w' => w'.cell? ⟨wi.heap.size,2,none⟩ = some (.string (x0 M).name) ∧ w'.cell? ⟨gO,A * 9 + 2,none⟩ = some (.string rA.name)) mixedO ⟨q1D,q2D⟩ (fun hHeld => ?_);refine wpAnyM_pure (i:=0) (oi:=_) (v:=?_) rfl (by kernel_rfl) (fun _ _ _ h => h) (Or.inl ⟨by kernel_rfl,?_⟩) (by assumption) ?_
                rotate_left
                · intro w' hSw;go_simp;try with_reducible rfl
                try simp only [Act.put,SL]
                refine wpAnyM_pure (i:=1) (oi:=_) (v:=?_) rfl (by kernel_rfl) (fun _ _ _ h => h) (Or.inl ⟨by kernel_rfl,?_⟩) (by assumption) ?_
                rotate_left
                · intro w' hSw;go_simp;try with_reducible rfl
                try simp only [Act.put,SL]
                try rw [d1]
                refine wpAnyM_pure (i:=2) (oi:=_) (v:=?_) rfl (by kernel_rfl) (fun _ _ _ h => h) (Or.inl ⟨by kernel_rfl,?_⟩) (by assumption) ?_
                rotate_left
                · intro w' hSw;go_simp;try with_reducible rfl
                try simp only [Act.put,SL]
                refine wpAnyM_pure (i:=3) (oi:=_) (v:=?_) rfl (by kernel_rfl) (fun _ _ _ h => h) (Or.inl ⟨by kernel_rfl,?_⟩) (by assumption) ?_
                rotate_left
                · intro w' hSw;go_simp;try with_reducible rfl
                try simp only [Act.put,SL]
                refine wpAnyM_takeN (i:=4) (oi:=_) (v:=?_) rfl (by kernel_rfl) (fun _ _ _ h => h) (Or.inl ⟨by kernel_rfl,?_⟩) (by assumption) ?_
                rotate_left
                · intro w' hSw
                  try dsimp only at hSw
                  obtain ⟨q1,q2⟩:=hSw;go_simp
                  try with_reducible rfl
                try simp only [Act.put,SL]
                refine wpAnyM_pure (i:=5) (oi:=_) (v:=?_) rfl (by kernel_rfl) (fun _ _ _ h => h) (Or.inl ⟨by kernel_rfl,?_⟩) (by assumption) ?_
                rotate_left
                · intro w' hSw;go_simp;try with_reducible rfl
                try simp only [Act.put,SL]
                refine wpAnyM_pure (i:=6) (oi:=_) (v:=?_) rfl (by kernel_rfl) (fun _ _ _ h => h) (Or.inl ⟨by kernel_rfl,?_⟩) (by assumption) ?_
                rotate_left
                · intro w' hSw;go_simp;try with_reducible rfl
                try simp only [Act.put,SL]
                refine wpAnyM_pure (i:=7) (oi:=_) (v:=?_) rfl (by kernel_rfl) (fun _ _ _ h => h) (Or.inl ⟨by kernel_rfl,?_⟩) (by assumption) ?_
                rotate_left
                · intro w' hSw;go_simp;try with_reducible rfl
                try simp only [Act.put,SL]
                refine wpAnyM_pure (i:=8) (oi:=_) (v:=?_) rfl (by kernel_rfl) (fun _ _ _ h => h) (Or.inl ⟨by kernel_rfl,?_⟩) (by assumption) ?_
                rotate_left
                · intro w' hSw;go_simp;try with_reducible rfl
                try simp only [Act.put,SL]
                refine wpAnyM_pure (i:=9) (oi:=_) (v:=?_) rfl (by kernel_rfl) (fun _ _ _ h => h) (Or.inl ⟨by kernel_rfl,?_⟩) (by assumption) ?_
                rotate_left
                · intro w' hSw;go_simp;try with_reducible rfl
                try simp only [Act.put,SL]
                refine wpAnyM_takeN (i:=10) (oi:=_) (v:=?_) rfl (by kernel_rfl) (fun _ _ _ h => h) (Or.inl ⟨by kernel_rfl,?_⟩) (by assumption) ?_
                rotate_left
                · intro w' hSw
                  try dsimp only at hSw
                  obtain ⟨q1,q2⟩:=hSw;go_simp
                  try with_reducible rfl
                try simp only [Act.put,SL]
                refine wpAnyM_pure (i:=11) (oi:=_) (v:=?_) rfl (by kernel_rfl) (fun _ _ _ h => h) (Or.inl ⟨by kernel_rfl,?_⟩) (by assumption) ?_
                rotate_left
                · intro w' hSw;go_simp;try with_reducible rfl
                try simp only [Act.put,SL]
                refine wpAnyM_pure (i:=12) (oi:=_) (v:=?_) rfl (by kernel_rfl) (fun _ _ _ h => h) (Or.inl ⟨by kernel_rfl,?_⟩) (by assumption) ?_
                rotate_left
                · intro w' hSw;go_simp;try with_reducible rfl
                try simp only [Act.put,SL]
                refine wpAnyM_done (by kernel_rfl) ?_ _;rw [← ht];obtain ⟨w9,hw9⟩:∃ x,x = wx.drew:=⟨_,rfl⟩;rw [← hw9] at bD ⊢;have b9:Below wx.heap.size wx w9:=bD;clear bD hw9 hHeld d1 d2 rgO q1D q2D ht
                cases t with
                | true =>
                  go_wp2
                  go_roundw
                  case rel => exact ⟨A,by omega,by go_num,fun k h1 h2 => by
                                by_cases c:k = A
                                · rw [c];exact HT.out.1 (by simp)
                                · exact HBE.out k (by omega) h2,HB5x.out.trans (b9.mono zx)⟩
                  case measure => simp [intOf]
                | false =>
                  have HS:Hid (A + 1 = 0 ∨ ¬ nmL (x0 M) < nmL (x0 (l.getD (A + 1 - 1) 0))):=.inr (fun h => absurd (HT.out.2 h) (by simp));obtain ⟨at_,hate⟩:∃ a,a = A + 1:=⟨_,rfl⟩;rw [← hate] at HS HBE hat ⊢;clear hate HT wP wP' wA hat0;have z9:wx.heap.size ≤ w9.heap.size:=b9.size;have V9:=(HVx.out.below b9 (by omega)).drew;have b9':Below wx.heap.size wx w9.drew:=b9.trans (show Below wx.heap.size w9 w9.drew from ⟨rfl,rfl,rfl,Nat.le_refl _,fun _ _ => rfl⟩);have X9:Box w9.drew wi.heap.size cR.toArray 81:=HXx.out.below b9' (by omega);have R9:layRec.rd w9.drew hi (x0 M) cR:=layRec.rd_below HRx.out b9' (by omega);have B9:Below w.heap.size w w9.drew:=HBx.out.trans (b9'.mono (by omega))
                  have rg9:w9.drew.rangeAt wi.heap.size 0 cR:=fun j v hv => by
                    have:=(X9.cell j).trans (by simpa using hv);rw [Nat.zero_add];exact this
                  obtain ⟨D,hD⟩:∃ D,D = w9.drew:=⟨_,rfl⟩;have HD:Hid (D = w9.drew):=hD;rw [← hD] at V9 X9 R9 B9 rg9
                  have zD:w9.heap.size = D.heap.size:=by rw [hD];rfl
                  clear hD b9 b9';obtain ⟨aU,cU,hUr,sU,hUz⟩:=V9.upto_ (show hi ≤ D.heap.size by omega) (al:=at_) hat;obtain ⟨aF,cF,hFr,sF,rF,hFz⟩:=V9.from_ (show hi ≤ D.heap.size by omega) (al:=at_) hat
                  have hAU:∀ b off,aU = some ⟨b,off,none⟩ → b < D.heap.size:=fun b off e => by
                    rcases V9.form2 with ⟨e3,e4⟩ | ⟨g,cp,e3,e4,hg⟩
                    · have hz:at_ = 0:=by omega
                      have:=hUr D;rw [e3,hz,run_upto0 D] at this
                      simp only [Result.ok.injEq,Value.slice.injEq,and_true] at this
                      rw [← this.1] at e
                      cases e
                    · have:=hUr D
                      rw [e3,run_upto9 g n cp at_ hat e4 D] at this
                      simp only [Result.ok.injEq,Value.slice.injEq,and_true] at this
                      rw [← this.1] at e
                      cases e
                      exact hg
                  have hAF:∀ b off,aF = some ⟨b,off,none⟩ → b < D.heap.size:=fun b off e => by
                    rcases V9.form2 with ⟨e3,e4⟩ | ⟨g,cp,e3,e4,hg⟩
                    · have hz:at_ = 0:=by omega
                      have:=hFr D;rw [e3,hz,run_from0 D] at this
                      simp only [Result.ok.injEq,Value.slice.injEq,and_true] at this
                      rw [← this.1] at e
                      cases e
                    · have:=hFr D
                      rw [e3,run_from9 g n cp at_ hat D] at this
                      simp only [Result.ok.injEq,Value.slice.injEq,and_true] at this
                      rw [← this.1] at e
                      split at e <;> cases e <;> exact hg
                  have hiD:hi ≤ D.heap.size:=by omega
                  have hpD:wi.heap.size < D.heap.size:=X9.lt
                  have hatL:at_ ≤ l.length:=by rw [← HN.out];exact hat
                  have HCN:Hid (LiveK x0 N (M + 1) (l.take at_ ++ M :: l.drop at_)):=HLK.out.ins HF.out at_ hatL (fun k h1 h2 => HBE.out k h1 (by rw [HN.out];exact h2)) HS.out;have HRd:Hid (layRec.rd D hi (x0 M) cR):=R9;have HBD:Hid (Below w.heap.size w D):=B9;have HUS:Hid (Src layRec D hi aU at_ (fun i => x0 (l.getD i 0)) co):=sU;have HFS:Hid (Src layRec D hi aF (n - at_) (fun j => x0 (l.getD (at_ + j) 0)) (fun j => co (at_ + j))):=sF;clear V9 X9 R9 B9 sU sF rF
                  go_upto_region 10 with fail
                  refine wp_region_M 7 (fun w' => w'.rangeAt wi.heap.size 0 cR) mixedO (by rw [← HD.out];exact rg9) (fun hHeld => ?_);rw [← HD.out] at hHeld ⊢;refine wpAnyM_pure (i:=1) (oi:=_) (v:=?_) rfl (by kernel_rfl) (fun _ _ _ h => h) (Or.inl ⟨by kernel_rfl,?_⟩) (by assumption) ?_
                  rotate_left
                  · intro w' hSw;go_simp;try with_reducible rfl
                  try simp only [Act.put,SL]
                  refine wpAnyM_pure (i:=2) (oi:=_) (v:=?_) rfl (by kernel_rfl) (fun _ _ _ h => h) (Or.inl ⟨by kernel_rfl,?_⟩) (by assumption) ?_
                  rotate_left
                  · intro w' hSw;go_simp;try with_reducible rfl
                  try simp only [Act.put,SL]
                  refine wpAnyM_pure (i:=3) (oi:=_) (v:=?_) rfl (by kernel_rfl) (fun _ _ _ h => h) (Or.inl ⟨by kernel_rfl,?_⟩) (by assumption) ?_
                  rotate_left
                  · intro w' hSw
                    try rw [show (Instr.slice 30 (.slice (some ⟨gO,0,none⟩) n cap) none (some (.int .i64 (at_:Int))) none).run Tryz.prog w' = _ from hUr w']
                    have hSl':=hUr w';go_simp
                    try with_reducible rfl
                  try simp only [Act.put,SL]
                  refine wpAnyM_take (i:=5) (oi:=_) (v:=.agg cR.toArray) 16 rfl (by kernel_rfl) (fun _ _ _ h => h) (yieldsIf_load_mid (by kernel_rfl) 81 (.tmp 5) rfl wi.heap.size (0) (by simp [Act.eval,Act.put]) cR _ (fun w h => h) Tryz.underlying81 rfl (info_Rec9 hcR)) (by assumption) ?_
                  try simp only [Act.put,SL]
                  refine wpAnyM_pure (i:=8) (oi:=_) (v:=?_) rfl (by kernel_rfl) (fun _ _ _ h => h) (Or.inl ⟨by kernel_rfl,?_⟩) (by assumption) ?_
                  rotate_left
                  · intro w' hSw;go_simp;try with_reducible rfl
                  try simp only [Act.put,SL]
                  refine wpAnyM_pure (i:=9) (oi:=_) (v:=?_) rfl (by kernel_rfl) (fun _ _ _ h => h) (Or.inl ⟨by kernel_rfl,?_⟩) (by assumption) ?_
                  rotate_left
                  · intro w' hSw;go_simp;try with_reducible rfl
                  try simp only [Act.put,SL]
                  refine wpAnyM_pure (i:=10) (oi:=_) (v:=?_) rfl (by kernel_rfl) (fun _ _ _ h => h) (Or.inl ⟨by kernel_rfl,?_⟩) (by assumption) ?_
                  rotate_left
                  · intro w' hSw
                    try rw [show (Instr.slice 30 (.slice (some ⟨gO,0,none⟩) n cap) (some (.int .i64 (at_:Int))) none none).run Tryz.prog w' = _ from hFr w']
                    have hSl':=hFr w';go_simp
                    try with_reducible rfl
                  try simp only [Act.put,SL]
                  refine wpAnyM_twoS (i:=0) (j:=6) (o:=_) (o':=_) rfl rfl (by kernel_rfl) (fun KC hKC => ?_) (fun KC hKC => ?_)
                  · refine step_build0 rfl rfl ?_
                    have bA:Below D.heap.size D (D.alloc (.cells #[] 81)):=(Below.refl _ _).alloc (Nat.le_refl _) _;refine hKC _ _ (range_below rg9 bA hpD) ?_;clear hKC KC
                    try simp only [Act.put,SL]
                    have VL:=View.lit0 (E:=layRec) (t:=81) (fun i => x0 (l.getD i 0)) co D hi;have zA1:D.heap.size < (D.alloc (.cells #[] 81)).heap.size:=(box_new D #[] 81).lt;obtain ⟨D1,hD1⟩:∃ x,x = D.alloc (.cells #[] 81):=⟨_,rfl⟩;rw [← hD1] at bA VL zA1 ⊢;clear hD1;refine wpAnyM_twoS (i:=4) (j:=6) (o:=_) (o':=_) rfl rfl (by kernel_rfl) (fun KC hKC => ?_) (fun KC hKC => ?_)
                    · skip
                      obtain ⟨v4,w4,cv4,runv4,V4,bw4⟩:=ins_up (lo:=lo) HUS.out hUz hAU bA hiD (by omega) VL;refine step_run2 rfl (.tmp 51) (.tmp 54) rfl (by simp [Act.eval,Act.put]) (by simp [Act.eval,Act.put]) runv4 ?_;have b4D:=bA.trans bw4;refine hKC _ _ (range_below rg9 b4D hpD) ?_;clear hKC KC
                      try simp only [Act.put,SL]
                      refine wpAnyM_oneS (i:=6) (o:=_) rfl (by kernel_rfl) (fun KC hKC => ?_);refine step_build1R rfl (.tmp 56) rfl HRd.out (by simp [Act.eval,Act.put]) ?_;have b6:Below w4.heap.size w4 (w4.alloc (.cells cR.toArray 81)):=(Below.refl _ _).alloc (Nat.le_refl _) _;have b6D:=b4D.trans (b6.mono b4D.size);refine hKC _ _ (range_below rg9 b6D hpD) ?_;clear hKC KC
                      try simp only [Act.put,SL]
                      have V6:=V4.below b6 (by have:=b4D.size;omega);have X6:Box (w4.alloc (.cells cR.toArray 81)) w4.heap.size cR.toArray 81:=box_new _ _ _;obtain ⟨v7,w7,cv7,runv7,V7,bw7⟩:=ins_one b6D hiD (by omega) V6 X6 (layRec.rd_below HRd.out b6D hiD);refine wpAnyM_one (i:=7) (o:=_) rfl (by kernel_rfl) (by kernel_rfl) (fun KC hKC => ?_);refine step_run2 rfl (.tmp 55) (.tmp 57) rfl (by simp [Act.eval,Act.put]) (by simp [Act.eval,Act.put]) runv7 ?_;refine hKC _ _ ?_;clear hKC KC
                      try simp only [Act.put,SL]
                      have b7D:=b6D.trans bw7;obtain ⟨v8,w8,cv8,runv8,V8,bw8⟩:=ins_rest HFS.out hFz hAF b7D hiD (by omega) V7;refine wpAnyM_one (i:=11) (o:=_) rfl (by kernel_rfl) (by kernel_rfl) (fun KC hKC => ?_);refine step_run2 rfl (.tmp 58) (.tmp 61) rfl (by simp [Act.eval,Act.put]) (by simp [Act.eval,Act.put]) runv8 ?_;refine hKC _ _ ?_;clear hKC KC
                      try simp only [Act.put,SL]
                      refine wpAnyM_pureL (i:=12) (oi:=_) (v:=?_) rfl (by kernel_rfl) (fun _ _ _ h => h) (Or.inl ⟨by kernel_rfl,?_⟩) ?_
                      rotate_left
                      · intro w' hSw;go_simp;try with_reducible rfl
                      try simp only [Act.put,SL]
                      refine wpAnyM_done (by kernel_rfl) ?_ _
                      have HV8:Hid (View layRec 81 w8 D.heap.size hi v8 (l.take at_ ++ M :: l.drop at_).length (fun i => x0 ((l.take at_ ++ M :: l.drop at_).getD i 0)) cv8):=by
                        show View _ _ _ _ _ _ _ _ _
                        rw [ins_len l M at_ hatL,← HN.out];exact V8.congr (fun i _ => ins_getD x0 l M at_ hatL i)
                      have HB8:Hid (Below w.heap.size w w8):=HBD.out.trans ((b7D.trans bw8).mono (by omega));have z8:D.heap.size ≤ w8.heap.size:=(b7D.trans bw8).size
                      have HLn:Hid ((l.take at_ ++ M :: l.drop at_).length ≤ i + 1):=by
                        show (l.take at_ ++ M :: l.drop at_).length ≤ i + 1
                        rw [ins_len l M at_ hatL,← HN.out];omega
                      clear V8 V7 bw7 bw8 b7D hHeld runv7 runv8 hUr hFr hUz hFz hAU hAF rg9 HUS HFS HRd HBD;go_wp2
                      go_roundw
                      case rel => exact ⟨i + 1,D.heap.size,l.take at_ ++ M :: l.drop at_,cv8,by omega,by go_num,by omega,z8,by rw [← HMM.out];exact HCN.out,HLn.out,HV8.out,HB8.out⟩
                      case measure => simp [intOf];omega
                    · refine step_build1R rfl (.tmp 56) rfl HRd.out (by simp [Act.eval,Act.put]) ?_
                      have b6:Below D1.heap.size D1 (D1.alloc (.cells cR.toArray 81)):=(Below.refl _ _).alloc (Nat.le_refl _) _;have b6D:=bA.trans (b6.mono bA.size);refine hKC _ _ (range_below rg9 b6D hpD) ?_;clear hKC KC
                      try simp only [Act.put,SL]
                      have VL6:=VL.below b6 (by have:=bA.size;omega);have X6:Box (D1.alloc (.cells cR.toArray 81)) D1.heap.size cR.toArray 81:=box_new _ _ _;have z6:D1.heap.size < (D1.alloc (.cells cR.toArray 81)).heap.size:=X6.lt;have zA:=bA.size;obtain ⟨D2,hD2⟩:∃ x,x = D1.alloc (.cells cR.toArray 81):=⟨_,rfl⟩;rw [← hD2] at b6 b6D VL6 X6 z6 ⊢;clear hD2;have XK:=X6;obtain ⟨v4,w4,cv4,runv4,⟨V4,X4⟩,bw4⟩:=ins_up4 HUS.out hUz hAU b6D hiD (by omega) VL6 X6 (fun h => by simp [Value.ownBlock] at h;omega);refine wpAnyM_oneS (i:=4) (o:=_) rfl (by kernel_rfl) (fun KC hKC => ?_);refine step_run2 rfl (.tmp 51) (.tmp 54) rfl (by simp [Act.eval,Act.put]) (by simp [Act.eval,Act.put]) runv4 ?_;have b4D:=b6D.trans bw4;refine hKC _ _ (range_below rg9 b4D hpD) ?_;clear hKC KC
                      try simp only [Act.put,SL]
                      obtain ⟨v7,w7,cv7,runv7,V7,bw7⟩:=ins_one b4D hiD (by omega) V4 X4 (layRec.rd_below HRd.out b4D hiD);refine wpAnyM_one (i:=7) (o:=_) rfl (by kernel_rfl) (by kernel_rfl) (fun KC hKC => ?_);refine step_run2 rfl (.tmp 55) (.tmp 57) rfl (by simp [Act.eval,Act.put]) (by simp [Act.eval,Act.put]) runv7 ?_;refine hKC _ _ ?_;clear hKC KC
                      try simp only [Act.put,SL]
                      have b7D:=b4D.trans bw7;obtain ⟨v8,w8,cv8,runv8,V8,bw8⟩:=ins_rest HFS.out hFz hAF b7D hiD (by omega) V7;refine wpAnyM_one (i:=11) (o:=_) rfl (by kernel_rfl) (by kernel_rfl) (fun KC hKC => ?_);refine step_run2 rfl (.tmp 58) (.tmp 61) rfl (by simp [Act.eval,Act.put]) (by simp [Act.eval,Act.put]) runv8 ?_;refine hKC _ _ ?_;clear hKC KC
                      try simp only [Act.put,SL]
                      refine wpAnyM_pureL (i:=12) (oi:=_) (v:=?_) rfl (by kernel_rfl) (fun _ _ _ h => h) (Or.inl ⟨by kernel_rfl,?_⟩) ?_
                      rotate_left
                      · intro w' hSw;go_simp;try with_reducible rfl
                      try simp only [Act.put,SL]
                      refine wpAnyM_done (by kernel_rfl) ?_ _
                      have HV8:Hid (View layRec 81 w8 D.heap.size hi v8 (l.take at_ ++ M :: l.drop at_).length (fun i => x0 ((l.take at_ ++ M :: l.drop at_).getD i 0)) cv8):=by
                        show View _ _ _ _ _ _ _ _ _
                        rw [ins_len l M at_ hatL,← HN.out];exact V8.congr (fun i _ => ins_getD x0 l M at_ hatL i)
                      have HB8:Hid (Below w.heap.size w w8):=HBD.out.trans ((b7D.trans bw8).mono (by omega));have z8:D.heap.size ≤ w8.heap.size:=(b7D.trans bw8).size
                      have HLn:Hid ((l.take at_ ++ M :: l.drop at_).length ≤ i + 1):=by
                        show (l.take at_ ++ M :: l.drop at_).length ≤ i + 1
                        rw [ins_len l M at_ hatL,← HN.out];omega
                      clear V8 V7 bw7 bw8 b7D hHeld runv7 runv8 hUr hFr hUz hFz hAU hAF rg9 HUS HFS HRd HBD;go_wp2
                      go_roundw
                      case rel => exact ⟨i + 1,D.heap.size,l.take at_ ++ M :: l.drop at_,cv8,by omega,by go_num,by omega,z8,by rw [← HMM.out];exact HCN.out,HLn.out,HV8.out,HB8.out⟩
                      case measure => simp [intOf];omega
                  · refine step_build1R rfl (.tmp 56) rfl HRd.out (by simp [Act.eval,Act.put]) ?_
                    have bA:Below D.heap.size D (D.alloc (.cells cR.toArray 81)):=(Below.refl _ _).alloc (Nat.le_refl _) _;refine hKC _ _ (range_below rg9 bA hpD) ?_;clear hKC KC
                    try simp only [Act.put,SL]
                    have XA:Box (D.alloc (.cells cR.toArray 81)) D.heap.size cR.toArray 81:=box_new _ _ _;have zA:D.heap.size < (D.alloc (.cells cR.toArray 81)).heap.size:=XA.lt;obtain ⟨D1,hD1⟩:∃ x,x = D.alloc (.cells cR.toArray 81):=⟨_,rfl⟩;rw [← hD1] at bA XA zA ⊢;clear hD1;refine wpAnyM_oneS (i:=0) (o:=_) rfl (by kernel_rfl) (fun KC hKC => ?_);refine step_build0 rfl rfl ?_;have b6:Below D1.heap.size D1 (D1.alloc (.cells #[] 81)):=(Below.refl _ _).alloc (Nat.le_refl _) _;have b6D:=bA.trans (b6.mono bA.size);refine hKC _ _ (range_below rg9 b6D hpD) ?_;clear hKC KC
                    try simp only [Act.put,SL]
                    have VL:=(View.lit0 (E:=layRec) (t:=81) (fun i => x0 (l.getD i 0)) co D1 hi).weakL (lo':=D.heap.size) (by omega);have X6:=XA.below b6 zA;obtain ⟨D2,hD2⟩:∃ x,x = D1.alloc (.cells #[] 81):=⟨_,rfl⟩;rw [← hD2] at b6 b6D VL X6 ⊢;clear hD2;obtain ⟨v4,w4,cv4,runv4,⟨V4,X4⟩,bw4⟩:=ins_up4 HUS.out hUz hAU b6D hiD (by omega) VL X6 (fun h => by simp [Value.ownBlock] at h;omega);refine wpAnyM_oneS (i:=4) (o:=_) rfl (by kernel_rfl) (fun KC hKC => ?_);refine step_run2 rfl (.tmp 51) (.tmp 54) rfl (by simp [Act.eval,Act.put]) (by simp [Act.eval,Act.put]) runv4 ?_;have b4D:=b6D.trans bw4;refine hKC _ _ (range_below rg9 b4D hpD) ?_;clear hKC KC
                    try simp only [Act.put,SL]
                    obtain ⟨v7,w7,cv7,runv7,V7,bw7⟩:=ins_one b4D hiD (by omega) V4 X4 (layRec.rd_below HRd.out b4D hiD);refine wpAnyM_one (i:=7) (o:=_) rfl (by kernel_rfl) (by kernel_rfl) (fun KC hKC => ?_);refine step_run2 rfl (.tmp 55) (.tmp 57) rfl (by simp [Act.eval,Act.put]) (by simp [Act.eval,Act.put]) runv7 ?_;refine hKC _ _ ?_;clear hKC KC
                    try simp only [Act.put,SL]
                    have b7D:=b4D.trans bw7;obtain ⟨v8,w8,cv8,runv8,V8,bw8⟩:=ins_rest HFS.out hFz hAF b7D hiD (by omega) V7;refine wpAnyM_one (i:=11) (o:=_) rfl (by kernel_rfl) (by kernel_rfl) (fun KC hKC => ?_);refine step_run2 rfl (.tmp 58) (.tmp 61) rfl (by simp [Act.eval,Act.put]) (by simp [Act.eval,Act.put]) runv8 ?_;refine hKC _ _ ?_;clear hKC KC
                    try simp only [Act.put,SL]
                    refine wpAnyM_pureL (i:=12) (oi:=_) (v:=?_) rfl (by kernel_rfl) (fun _ _ _ h => h) (Or.inl ⟨by kernel_rfl,?_⟩) ?_
                    rotate_left
                    · intro w' hSw;go_simp;try with_reducible rfl
                    try simp only [Act.put,SL]
                    refine wpAnyM_done (by kernel_rfl) ?_ _
                    have HV8:Hid (View layRec 81 w8 D.heap.size hi v8 (l.take at_ ++ M :: l.drop at_).length (fun i => x0 ((l.take at_ ++ M :: l.drop at_).getD i 0)) cv8):=by
                      show View _ _ _ _ _ _ _ _ _
                      rw [ins_len l M at_ hatL,← HN.out];exact V8.congr (fun i _ => ins_getD x0 l M at_ hatL i)
                    have HB8:Hid (Below w.heap.size w w8):=HBD.out.trans ((b7D.trans bw8).mono (by omega));have z8:D.heap.size ≤ w8.heap.size:=(b7D.trans bw8).size
                    have HLn:Hid ((l.take at_ ++ M :: l.drop at_).length ≤ i + 1):=by
                      show (l.take at_ ++ M :: l.drop at_).length ≤ i + 1
                      rw [ins_len l M at_ hatL,← HN.out];omega
                    clear V8 V7 bw7 bw8 b7D hHeld runv7 runv8 hUr hFr hUz hFz hAU hAF rg9 HUS HFS HRd HBD;go_wp2
                    go_roundw
                    case rel => exact ⟨i + 1,D.heap.size,l.take at_ ++ M :: l.drop at_,cv8,by omega,by go_num,by omega,z8,by rw [← HMM.out];exact HCN.out,HLn.out,HV8.out,HB8.out⟩
                    case measure => simp [intOf];omega
        · obtain rfl:i = N:=by omega
          clear hrs hlt2;have HLV:Hid (Live x0 i l):=HLK.out.done;go_wp2;go_ret;exact ⟨_,l,co,lo,rfl,HLV.out,hlo,by rw [← HN.out];exact HV.out,HBW.out⟩
end Go.Proofs.YtbjkjcfodljamaaGreat
namespace Go.Proofs.YtbjkjcfodljamaaGreat
open Go.RowKit F256
theorem rec_kind {s:Nat → Int} {r:RecD} (h:RecAns s r 0):KindP s r:=by
  rcases h with ⟨_,h⟩ | ⟨_,h⟩
  · cases h
  rcases h with ⟨_,h⟩ | ⟨_,h⟩
  · cases h
  rcases h with ⟨_,h⟩ | ⟨_,h⟩
  · cases h
  rcases h with ⟨_,h⟩ | ⟨_,h⟩
  · cases h
  rcases h with ⟨_,h⟩ | ⟨h,_⟩
  · cases h
  · exact h
theorem recT_kind {d:WorldD} (hok:OkWorld d) {i:Nat} (hi:i < lenT d.tapes.2 2):KindP d.shape (recT d.tapes.2 2 i):=by
  have h2:d.tapes.1 = 2:=hok.form.2.2;have key:∀ t j,t < 2 → j < (d.tapes.2 t).recs.1 → KindP d.shape ((d.tapes.2 t).recs.2 j):=fun t j ht hj => rec_kind (hok.recs t (by omega) j hj)
  have e1:lenT d.tapes.2 1 = (d.tapes.2 0).recs.1:=by simp [lenT]
  have e2:lenT d.tapes.2 2 = (d.tapes.2 0).recs.1 + (d.tapes.2 1).recs.1:=by simp [lenT]
  rw [e2] at hi
  show KindP d.shape (cat2 (recT d.tapes.2 1) (lenT d.tapes.2 1) (d.tapes.2 1).recs.2 i)
  unfold cat2
  split
  · rename_i c
    rw [e1] at c
    show KindP d.shape (cat2 (recT d.tapes.2 0) (lenT d.tapes.2 0) (d.tapes.2 0).recs.2 i)
    unfold cat2;rw [if_neg (by show ¬ i < 0;omega)];exact key 0 (i - 0) (by omega) (by omega)
  · rename_i c
    rw [e1] at c ⊢;exact key 1 _ (by omega) (by omega)
theorem item_len {s:Nat → Int} {r:RecD} (h:KindP s r) (hk:r.kind = 1):r.length < 0 ↔ r.length = -1:=by
  rcases h with ⟨_,h⟩ | ⟨h,_⟩ | ⟨h,_⟩ | ⟨h,_⟩
  · rcases h with ⟨h,_⟩ | ⟨_,h,_⟩ <;> omega
  · omega
  · omega
  · omega
theorem l_kind {d:WorldD} (hok:OkWorld d) {l:List Nat} (hCt:Cnt (recT d.tapes.2 2) (lenT d.tapes.2 2) l) {i:Nat} (hi:i < l.length):KindP d.shape (recT d.tapes.2 2 (l.getD i 0)) :=
  recT_kind hok ((hCt.mem _).1 (by rw [getD_at hi];exact List.getElem_mem hi)).1
end Go.Proofs.YtbjkjcfodljamaaGreat
namespace Go.Proofs.YtbjkjcfodljamaaGreat
open Go.RowKit F256
def liveOf (d:WorldD) (l m:List Nat):Nat × (Nat → RecD):=(m.length,fun i => recT d.tapes.2 2 (l.getD (m.getD i 0) 0))
def ItAns (d:WorldD) (q:RecsResultD):Prop:=(∃ x,x ≠ 0 ∧ WldAns d x ∧ q = ⟨x,(0,fun _ => rec0)⟩) ∨ (WldAns d 0 ∧ ∃ l m,Cnt (recT d.tapes.2 2) (lenT d.tapes.2 2) l ∧ Live (fun i => recT d.tapes.2 2 (l.getD i 0)) l.length m ∧ q = ⟨0,liveOf d l m⟩)
theorem ItAns.one {d:WorldD} {p q:RecsResultD} (h:ItAns d p) (k:ItAns d q):p = q:=by
  rcases h with ⟨x,h1,h2,rfl⟩ | ⟨h1,l,m,hl,hm,rfl⟩ <;> rcases k with ⟨y,k1,k2,rfl⟩ | ⟨k1,l',m',kl,km,rfl⟩
  · rw [h2.one k2]
  · exact absurd (h2.one k1) h1
  · exact absurd (k2.one h1) k1
  · obtain rfl:=hl.uniq kl
    rw [hm.uniq km]
theorem live_sum {x:Nat → RecD} {N:Nat} {m:List Nat} (h:Live x N m) (f:Nat → Nat):sumN (fun i => f (m.getD i 0)) m.length ≤ sumN f N ∧ m.length ≤ N:=by
  have:=sub_sum f N m h.nodup (fun i hi => h.lt hi);rw [← sumN_map f] at this;exact this
theorem live_size {d:WorldD} (h2:d.tapes.1 = 2) (hsz:szWorldD d ≤ 1048576) {l m:List Nat} (h:Cnt (recT d.tapes.2 2) (lenT d.tapes.2 2) l) (hm:Live (fun i => recT d.tapes.2 2 (l.getD i 0)) l.length m):(szSl szRecD) (liveOf d l m) ≤ 1048576:=by
  have h1:=cnt_size h2 hsz h;have h3:=live_sum hm (fun i => szRecD (recT d.tapes.2 2 (l.getD i 0)));have e1:(szSl szRecD) (l.length,(fun i => recT d.tapes.2 2 (l.getD i 0))) = l.length + sumN (fun i => szRecD (recT d.tapes.2 2 (l.getD i 0))) l.length:=rfl
  show m.length + sumN (fun i => szRecD (recT d.tapes.2 2 (l.getD (m.getD i 0) 0))) m.length ≤ 1048576
  rw [e1] at h1;have h4:=h3.1;have h5:=h3.2;omega
set_option maxHeartbeats 16000000 in
set_option maxRecDepth 20000 in
theorem implIt_any (d:WorldD) (cs:List Value) (hi:Nat) (w:World) (h:layWorld.rd w hi d cs) (hhi:hi ≤ w.heap.size) (hsz:szWorldD d ≤ 1048576) :
    Calls Tryz.prog 9 #[.agg cs.toArray] w (RcPost (ItAns d) w):=by
  have h':=h;obtain ⟨ao1,cap1,ao2,cap2,ao3,cap3,rfl,g1,g2,g3,k0,k4,k5⟩:=World_rd h';have HRD:Hid (layWorld.rd w hi d [.int .i64 (d.shape 0),.int .i64 (d.shape 1),.int .i64 (d.shape 2),.int .i64 (d.shape 3),.int .i64 (d.shape 4),.int .i64 (d.shape 5),.int .i64 (d.shape 6),.int .i64 (d.shape 7),.int .i64 (d.shape 8),.slice ao1 d.groups.1 cap1,.slice ao2 d.on.1 cap2,.slice ao3 d.tapes.1 cap3,.int .i64 d.writes,.int .i64 d.stop,.bool d.down]):=h;have HG3:Hid ((layTape.slice 96).rd w hi d.tapes [.slice ao3 d.tapes.1 cap3]):=g3;have HSZ:Hid (szWorldD d ≤ 1048576):=hsz;clear h h' hsz g1 g2 g3 k0 k4 k5;have T0:=two_newb w #[.int .i64 (d.shape 0),.int .i64 (d.shape 1),.int .i64 (d.shape 2),.int .i64 (d.shape 3),.int .i64 (d.shape 4),.int .i64 (d.shape 5),.int .i64 (d.shape 6),.int .i64 (d.shape 7),.int .i64 (d.shape 8),.slice ao1 d.groups.1 cap1,.slice ao2 d.on.1 cap2,.slice ao3 d.tapes.1 cap3,.int .i64 d.writes,.int .i64 d.stop,.bool d.down] #[.int .i64 0,.slice none 0 0] 38 32
  go_enter Tryz.func9,Tryz.ntmps9
  go_wp2_with (refine wp_loadBox 38 (.tmp 1) rfl rfl (w.heap.size) rfl (cs:=[.int .i64 (d.shape 0),.int .i64 (d.shape 1),.int .i64 (d.shape 2),.int .i64 (d.shape 3),.int .i64 (d.shape 4),.int .i64 (d.shape 5),.int .i64 (d.shape 6),.int .i64 (d.shape 7),.int .i64 (d.shape 8),.slice ao1 d.groups.1 cap1,.slice ao2 d.on.1 cap2,.slice ao3 d.tapes.1 cap3,.int .i64 d.writes,.int .i64 d.stop,.bool d.down]) (T0.b1) Tryz.underlying38 size_W rfl ?_)
  refine (implWorld_any d _ hi _ (layWorld.rd_below HRD.out T0.bel hhi) (Nat.le_trans hhi T0.bel.size) (wld_ok_names HSZ.out)).mono ?_;rintro e w1 ⟨x,rfl,hx,b1⟩;have HT1:Hid (Two w w1 #[.int .i64 (d.shape 0),.int .i64 (d.shape 1),.int .i64 (d.shape 2),.int .i64 (d.shape 3),.int .i64 (d.shape 4),.int .i64 (d.shape 5),.int .i64 (d.shape 6),.int .i64 (d.shape 7),.int .i64 (d.shape 8),.slice ao1 d.groups.1 cap1,.slice ao2 d.on.1 cap2,.slice ao3 d.tapes.1 cap3,.int .i64 d.writes,.int .i64 d.stop,.bool d.down] #[.int .i64 0,.slice none 0 0] 38 32):=T0.call b1;have HX:Hid (WldAns d x):=hx;have z1:w.heap.size + 1 < w1.heap.size:=HT1.out.b2.lt;clear b1 T0 hx
  by_cases hx0:x = 0
  case neg =>
    have hne:(x != 0) = true:=by simp [hx0]
    go_wp2_with (refine wp_storeBox 32 _ _ rfl rfl (w.heap.size + 1) rfl (cs:=[.int .i64 x,.slice none 0 0]) (old:=[.int .i64 0,.slice none 0 0]) rfl (HT1.out.b2) size_Rc rfl rfl ((rcode_own w1 x (wld_small HX.out) 0 0).one) ?_;intro w9 X9 C9 z9)
    refine ret_box Tryz.results9 rfl X9 Tryz.underlying32 size_Rc rfl rfl ?_;have zz:=C9.size;exact ⟨⟨x,(0,fun _ => rec0)⟩,[.int .i64 x,.slice none 0 0],rfl,.inl ⟨x,hx0,HX.out,rfl⟩,rcode_own w9 x (wld_small HX.out) _ _,HT1.out.bel.trans (C9.bel (fun b hb => by simp at hb;omega) HT1.out.bel.size)⟩
  subst hx0;have HOK:Hid (OkWorld d):=WldAns.ok HX.out;have h2:d.tapes.1 = 2:=HOK.out.form.2.2;have hn0:(d.tapes.2 0).recs.1 ≤ 400000:=Nat.le_trans (HOK.out.few 0 (by omega)) (by decide);have hn1:(d.tapes.2 1).recs.1 ≤ 400000:=Nat.le_trans (HOK.out.few 1 (by omega)) (by decide);have HH2:Hid (d.tapes.1 = 2):=h2;clear h2;have CR:=readTapes_any d [.int .i64 (d.shape 0),.int .i64 (d.shape 1),.int .i64 (d.shape 2),.int .i64 (d.shape 3),.int .i64 (d.shape 4),.int .i64 (d.shape 5),.int .i64 (d.shape 6),.int .i64 (d.shape 7),.int .i64 (d.shape 8),.slice ao1 d.groups.1 cap1,.slice ao2 d.on.1 cap2,.slice ao3 d.tapes.1 cap3,.int .i64 d.writes,.int .i64 d.stop,.bool d.down] hi w1 (layWorld.rd_below HRD.out HT1.out.bel hhi) (Nat.le_trans hhi HT1.out.bel.size) HOK.out
  go_wp2_with (refine wp_loadBox 38 (.tmp 1) rfl rfl (w.heap.size) rfl (cs:=[.int .i64 (d.shape 0),.int .i64 (d.shape 1),.int .i64 (d.shape 2),.int .i64 (d.shape 3),.int .i64 (d.shape 4),.int .i64 (d.shape 5),.int .i64 (d.shape 6),.int .i64 (d.shape 7),.int .i64 (d.shape 8),.slice ao1 d.groups.1 cap1,.slice ao2 d.on.1 cap2,.slice ao3 d.tapes.1 cap3,.int .i64 d.writes,.int .i64 d.stop,.bool d.down]) (HT1.out.b1) Tryz.underlying38 size_W rfl ?_)
  refine CR.mono ?_;rintro e w2 ⟨B,l,ce,v,b1,b2,b3,b4,b5,rfl,hCt,hLd,hRd,bb2⟩;have HL:Hid (Cnt (recT d.tapes.2 2) (lenT d.tapes.2 2) l):=hCt;have HT2:Hid (Two w w2 #[.int .i64 (d.shape 0),.int .i64 (d.shape 1),.int .i64 (d.shape 2),.int .i64 (d.shape 3),.int .i64 (d.shape 4),.int .i64 (d.shape 5),.int .i64 (d.shape 6),.int .i64 (d.shape 7),.int .i64 (d.shape 8),.slice ao1 d.groups.1 cap1,.slice ao2 d.on.1 cap2,.slice ao3 d.tapes.1 cap3,.int .i64 d.writes,.int .i64 d.stop,.bool d.down] #[.int .i64 0,.slice none 0 0] 38 32):=HT1.out.call bb2;have z2:w1.heap.size ≤ w2.heap.size:=bb2.size
  have hlen:l.length ≤ 800000:=by
    have h1:=(hCt.sum (fun _ => 0)).2
    have e2:lenT d.tapes.2 2 = (d.tapes.2 0).recs.1 + (d.tapes.2 1).recs.1:=by simp [lenT]
    omega
  have CU:=items_any hLd (by omega) (by omega) hRd (fun i hi' hk1 => item_len (l_kind HOK.out hCt hi') hk1);clear hLd hRd bb2 CR HT1
  go_wp2_with fail
  refine CU.mono ?_;rintro e w5 ⟨u,cu,m,rfl,hLM,V,b5'⟩;have HLM:Hid (Live (fun i => recT d.tapes.2 2 (l.getD i 0)) l.length m):=hLM;have HT5:Hid (Two w w5 #[.int .i64 (d.shape 0),.int .i64 (d.shape 1),.int .i64 (d.shape 2),.int .i64 (d.shape 3),.int .i64 (d.shape 4),.int .i64 (d.shape 5),.int .i64 (d.shape 6),.int .i64 (d.shape 7),.int .i64 (d.shape 8),.slice ao1 d.groups.1 cap1,.slice ao2 d.on.1 cap2,.slice ao3 d.tapes.1 cap3,.int .i64 d.writes,.int .i64 d.stop,.bool d.down] #[.int .i64 0,.slice none 0 0] 38 32):=HT2.out.call b5';have z5:w2.heap.size ≤ w5.heap.size:=b5'.size;have CT:=tellRecs_any u (liveOf d l m) w5.heap.size w5 (V.rd (by omega)) (Nat.le_refl _) (live_size HH2.out HSZ.out hCt hLM);obtain ⟨a2,c2,rfl⟩:=V.form;clear V b5' CU HT2 hCt hLM
  go_wp2_with fail
  refine CT.mono ?_;rintro e w3 ⟨cs3,rfl,O3,bb3⟩;have HT3:Hid (Two w w3 #[.int .i64 (d.shape 0),.int .i64 (d.shape 1),.int .i64 (d.shape 2),.int .i64 (d.shape 3),.int .i64 (d.shape 4),.int .i64 (d.shape 5),.int .i64 (d.shape 6),.int .i64 (d.shape 7),.int .i64 (d.shape 8),.slice ao1 d.groups.1 cap1,.slice ao2 d.on.1 cap2,.slice ao3 d.tapes.1 cap3,.int .i64 d.writes,.int .i64 d.stop,.bool d.down] #[.int .i64 0,.slice none 0 0] 38 32):=HT5.out.call bb3;obtain ⟨a3,c3,rfl⟩:=RecsResult_cells O3;have HO3:Hid (OwnT layRecsResult w3 w5.heap.size w3.heap.size ⟨0,liveOf d l m⟩ [.int .i64 0,.slice a3 (liveOf d l m).1 c3]):=O3;clear O3 bb3 CT HT5
  go_wp2_with (refine wp_storeBox 32 _ _ rfl rfl (w.heap.size + 1) rfl (cs:=[.int .i64 0,.slice a3 (liveOf d l m).1 c3]) (old:=[.int .i64 0,.slice none 0 0]) rfl (HT3.out.b2) size_Rc rfl rfl (HO3.out.one) ?_;intro w9 X9 C9 z9)
  refine ret_box Tryz.results9 rfl X9 Tryz.underlying32 size_Rc rfl rfl ?_;have zz:=C9.size;have O9:=(HO3.out.chgk C9 (fun b hb => by simp at hb;omega)).weaken (lo':=w.heap.size) (hi':=w9.heap.size) (by omega) zz;exact ⟨_,_,rfl,.inr ⟨HX.out,l,m,HL.out,HLM.out,rfl⟩,O9,HT3.out.bel.trans (C9.bel (fun b hb => by simp at hb;omega) HT3.out.bel.size)⟩
set_option maxHeartbeats 16000000 in
set_option maxRecDepth 20000 in
theorem specIt_any (d:WorldD) (cs:List Value) (hi:Nat) (w:World) (h:layWorld.rd w hi d cs) (hhi:hi ≤ w.heap.size) (hsz:szWorldD d ≤ 1048576) :
    Calls Tryz.prog 7 #[.agg cs.toArray] w (RcPost (ItAns d) w):=by
  have h':=h;obtain ⟨ao1,cap1,ao2,cap2,ao3,cap3,rfl,g1,g2,g3,k0,k4,k5⟩:=World_rd h';have HRD:Hid (layWorld.rd w hi d [.int .i64 (d.shape 0),.int .i64 (d.shape 1),.int .i64 (d.shape 2),.int .i64 (d.shape 3),.int .i64 (d.shape 4),.int .i64 (d.shape 5),.int .i64 (d.shape 6),.int .i64 (d.shape 7),.int .i64 (d.shape 8),.slice ao1 d.groups.1 cap1,.slice ao2 d.on.1 cap2,.slice ao3 d.tapes.1 cap3,.int .i64 d.writes,.int .i64 d.stop,.bool d.down]):=h;have HG3:Hid ((layTape.slice 96).rd w hi d.tapes [.slice ao3 d.tapes.1 cap3]):=g3;have HSZ:Hid (szWorldD d ≤ 1048576):=hsz;clear h h' hsz g1 g2 g3 k0 k4 k5;have T0:=two_newb w #[.int .i64 (d.shape 0),.int .i64 (d.shape 1),.int .i64 (d.shape 2),.int .i64 (d.shape 3),.int .i64 (d.shape 4),.int .i64 (d.shape 5),.int .i64 (d.shape 6),.int .i64 (d.shape 7),.int .i64 (d.shape 8),.slice ao1 d.groups.1 cap1,.slice ao2 d.on.1 cap2,.slice ao3 d.tapes.1 cap3,.int .i64 d.writes,.int .i64 d.stop,.bool d.down] #[.int .i64 0,.slice none 0 0] 38 32
  go_enter Tryz.func7,Tryz.ntmps7
  go_wp2_with (refine wp_loadBox 38 (.tmp 1) rfl rfl (w.heap.size) rfl (cs:=[.int .i64 (d.shape 0),.int .i64 (d.shape 1),.int .i64 (d.shape 2),.int .i64 (d.shape 3),.int .i64 (d.shape 4),.int .i64 (d.shape 5),.int .i64 (d.shape 6),.int .i64 (d.shape 7),.int .i64 (d.shape 8),.slice ao1 d.groups.1 cap1,.slice ao2 d.on.1 cap2,.slice ao3 d.tapes.1 cap3,.int .i64 d.writes,.int .i64 d.stop,.bool d.down]) (T0.b1) Tryz.underlying38 size_W rfl ?_)
  refine (specWorld_any d _ hi _ (layWorld.rd_below HRD.out T0.bel hhi) (Nat.le_trans hhi T0.bel.size) (wld_ok_names HSZ.out)).mono ?_;rintro e w1 ⟨x,rfl,hx,b1⟩;have HT1:Hid (Two w w1 #[.int .i64 (d.shape 0),.int .i64 (d.shape 1),.int .i64 (d.shape 2),.int .i64 (d.shape 3),.int .i64 (d.shape 4),.int .i64 (d.shape 5),.int .i64 (d.shape 6),.int .i64 (d.shape 7),.int .i64 (d.shape 8),.slice ao1 d.groups.1 cap1,.slice ao2 d.on.1 cap2,.slice ao3 d.tapes.1 cap3,.int .i64 d.writes,.int .i64 d.stop,.bool d.down] #[.int .i64 0,.slice none 0 0] 38 32):=T0.call b1;have HX:Hid (WldAns d x):=hx;have z1:w.heap.size + 1 < w1.heap.size:=HT1.out.b2.lt;clear b1 T0 hx
  by_cases hx0:x = 0
  case neg =>
    have hne:(x != 0) = true:=by simp [hx0]
    go_wp2_with (refine wp_storeBox 32 _ _ rfl rfl (w.heap.size + 1) rfl (cs:=[.int .i64 x,.slice none 0 0]) (old:=[.int .i64 0,.slice none 0 0]) rfl (HT1.out.b2) size_Rc rfl rfl ((rcode_own w1 x (wld_small HX.out) 0 0).one) ?_;intro w9 X9 C9 z9)
    refine ret_box Tryz.results7 rfl X9 Tryz.underlying32 size_Rc rfl rfl ?_;have zz:=C9.size;exact ⟨⟨x,(0,fun _ => rec0)⟩,[.int .i64 x,.slice none 0 0],rfl,.inl ⟨x,hx0,HX.out,rfl⟩,rcode_own w9 x (wld_small HX.out) _ _,HT1.out.bel.trans (C9.bel (fun b hb => by simp at hb;omega) HT1.out.bel.size)⟩
  subst hx0;have HOK:Hid (OkWorld d):=WldAns.ok HX.out;have h2:d.tapes.1 = 2:=HOK.out.form.2.2;have hn0:(d.tapes.2 0).recs.1 ≤ 400000:=Nat.le_trans (HOK.out.few 0 (by omega)) (by decide);have hn1:(d.tapes.2 1).recs.1 ≤ 400000:=Nat.le_trans (HOK.out.few 1 (by omega)) (by decide);have CC:=l6Counted_any d [.int .i64 (d.shape 0),.int .i64 (d.shape 1),.int .i64 (d.shape 2),.int .i64 (d.shape 3),.int .i64 (d.shape 4),.int .i64 (d.shape 5),.int .i64 (d.shape 6),.int .i64 (d.shape 7),.int .i64 (d.shape 8),.slice ao1 d.groups.1 cap1,.slice ao2 d.on.1 cap2,.slice ao3 d.tapes.1 cap3,.int .i64 d.writes,.int .i64 d.stop,.bool d.down] hi w.heap.size w1 (layWorld.rd_below HRD.out HT1.out.bel hhi) (Nat.le_trans hhi HT1.out.bel.size) HT1.out.b1 h2 hn0 hn1;have HH2:Hid (d.tapes.1 = 2):=h2;clear h2
  go_wp2_with fail
  refine CC.mono ?_;rintro e w2 ⟨v2,l,ce0,lo2,rfl,hCt,hlo2,V,b2⟩;have HL:Hid (Cnt (recT d.tapes.2 2) (lenT d.tapes.2 2) l):=hCt;have HT2:Hid (Two w w2 #[.int .i64 (d.shape 0),.int .i64 (d.shape 1),.int .i64 (d.shape 2),.int .i64 (d.shape 3),.int .i64 (d.shape 4),.int .i64 (d.shape 5),.int .i64 (d.shape 6),.int .i64 (d.shape 7),.int .i64 (d.shape 8),.slice ao1 d.groups.1 cap1,.slice ao2 d.on.1 cap2,.slice ao3 d.tapes.1 cap3,.int .i64 d.writes,.int .i64 d.stop,.bool d.down] #[.int .i64 0,.slice none 0 0] 38 32):=HT1.out.call b2;have z2:w1.heap.size ≤ w2.heap.size:=b2.size
  have hlen:l.length ≤ 800000:=by
    have h1:=(hCt.sum (fun _ => 0)).2
    have e2:lenT d.tapes.2 2 = (d.tapes.2 0).recs.1 + (d.tapes.2 1).recs.1:=by simp [lenT]
    omega
  have CN:=l6Live_any v2 l.length (fun i => recT d.tapes.2 2 (l.getD i 0)) w2.heap.size w2 (V.rd (by omega)) (Nat.le_refl _) (by omega);obtain ⟨a2,c2,rfl⟩:=V.form;clear CC b2 HT1 V
  go_wp2_with fail
  refine CN.mono ?_;rintro e w5 ⟨u,m,cu,lo5,rfl,hLM,hlo5,V,b5⟩;have HLM:Hid (Live (fun i => recT d.tapes.2 2 (l.getD i 0)) l.length m):=hLM;have HT5:Hid (Two w w5 #[.int .i64 (d.shape 0),.int .i64 (d.shape 1),.int .i64 (d.shape 2),.int .i64 (d.shape 3),.int .i64 (d.shape 4),.int .i64 (d.shape 5),.int .i64 (d.shape 6),.int .i64 (d.shape 7),.int .i64 (d.shape 8),.slice ao1 d.groups.1 cap1,.slice ao2 d.on.1 cap2,.slice ao3 d.tapes.1 cap3,.int .i64 d.writes,.int .i64 d.stop,.bool d.down] #[.int .i64 0,.slice none 0 0] 38 32):=HT2.out.call b5;have z5:w2.heap.size ≤ w5.heap.size:=b5.size;have CT:=l5CopyRecs_is u (liveOf d l m) w5.heap.size w5 (V.rd (by omega)) (Nat.le_refl _) (live_size HH2.out HSZ.out hCt hLM);obtain ⟨a4,c4,rfl⟩:=V.form;clear V b5 CN HT2 hCt hLM
  go_wp2_with fail
  refine CT.mono ?_;rintro e w3 ⟨v3,rfl,O3,b3⟩;have HT3:Hid (Two w w3 #[.int .i64 (d.shape 0),.int .i64 (d.shape 1),.int .i64 (d.shape 2),.int .i64 (d.shape 3),.int .i64 (d.shape 4),.int .i64 (d.shape 5),.int .i64 (d.shape 6),.int .i64 (d.shape 7),.int .i64 (d.shape 8),.slice ao1 d.groups.1 cap1,.slice ao2 d.on.1 cap2,.slice ao3 d.tapes.1 cap3,.int .i64 d.writes,.int .i64 d.stop,.bool d.down] #[.int .i64 0,.slice none 0 0] 38 32):=HT5.out.call b3;obtain ⟨a3,c3,rfl⟩:=recs_form O3;have HO3:Hid (OwnT layRecsResult w3 w5.heap.size w3.heap.size ⟨0,liveOf d l m⟩ [.int .i64 0,.slice a3 (liveOf d l m).1 c3]):=rres_own (n:=(liveOf d l m).1) (f:=(liveOf d l m).2) O3 0 (by decide);clear O3 b3 CT HT5
  go_wp2_with (refine wp_storeBox 32 _ _ rfl rfl (w.heap.size + 1) rfl (cs:=[.int .i64 0,.slice a3 (liveOf d l m).1 c3]) (old:=[.int .i64 0,.slice none 0 0]) rfl (HT3.out.b2) size_Rc rfl rfl (HO3.out.one) ?_;intro w9 X9 C9 z9)
  refine ret_box Tryz.results7 rfl X9 Tryz.underlying32 size_Rc rfl rfl ?_;have zz:=C9.size;have O9:=(HO3.out.chgk C9 (fun b hb => by simp at hb;omega)).weaken (lo':=w.heap.size) (hi':=w9.heap.size) (by omega) zz;exact ⟨_,_,rfl,.inr ⟨HX.out,l,m,HL.out,HLM.out,rfl⟩,O9,HT3.out.bel.trans (C9.bel (fun b hb => by simp at hb;omega) HT3.out.bel.size)⟩
end Go.Proofs.YtbjkjcfodljamaaGreat