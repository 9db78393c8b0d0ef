/- Walks of the program's recInBounds and RecFault. -/
import Derived.Test.YtbjblbbbafiepaaGreatZProwstae
import Derived.Test.YtbjblbbbafiepaaGreatZProwstad
import Derived.Deep.DeepCutAuto
import Derived.Test.YtbjblbbbafiepaaGreatRows
import Derived.Test.YtbjblbbbafiepaaGreatZProwstaa
import Derived.Test.YtbjblbbbafiepaaGreatZProwstac
import Derived.Deep.RegionLaw
set_option linter.unusedVariables false
set_option linter.unusedSimpArgs false
namespace Go.Proofs.YtbjblbbbafiepaaGreat
open Go.RowKit F256
set_option maxHeartbeats 16000000 in
theorem recIn_any (s:Nat → Int) (hs:OkShape s) (r:RecD) (cs:List Value) (hi:Nat) (w:World) (h:layRec.rd w hi r cs) (hhi:hi ≤ w.heap.size) (hk:InP r.kind 1 4) :
    Calls Tryz.prog 123 #[shapeV s,.agg cs.toArray] w (BoolP (KindP s r) w):=by
  obtain ⟨kind,seq,name,length,group,row,rows,data,delta⟩:=r;obtain ⟨ao6,cap6,ao7,cap7,ao8,cap8,rfl,g6,g7,g8,k0,k1,k2,k3,k4,k5⟩:=Rec_rd h;have HRD:Hid (layRec.rd w hi ⟨kind,seq,name,length,group,row,rows,data,delta⟩ [.int .i64 kind,.int .i64 seq,.string name,.int .i64 length,.int .i64 group,.int .i64 row,.slice ao6 rows.1 cap6,.slice ao7 data.1 cap7,.slice ao8 delta.1 cap8]):=h;obtain ⟨v7,e7,⟨_,_,e7',hm7,_⟩,_⟩:=g7
  cases e7
  cases e7'
  obtain ⟨v8,e8,⟨_,_,e8',hm8,_⟩,_⟩:=g8
  cases e8
  cases e8'
  unfold maxLen at hm7 hm8
  simp only at hk hm7 hm8
  have HS:Hid (OkShape s):=hs
  have hk4:kind = 1 ∨ kind = 2 ∨ kind = 3 ∨ kind = 4:=by unfold InP at hk;omega
  clear h g6 k0 k1 k2 k3 k4 k5 hk hs
  rcases hk4 with rfl | rfl | rfl | rfl
  · have T0:=two_newb w #[.int .i64 (s 0),.int .i64 (s 1),.int .i64 (s 2),.int .i64 (s 3),.int .i64 (s 4),.int .i64 (s 5),.int .i64 (s 6),.int .i64 (s 7),.int .i64 (s 8)] #[.int .i64 1,.int .i64 seq,.string name,.int .i64 length,.int .i64 group,.int .i64 row,.slice ao6 rows.1 cap6,.slice ao7 data.1 cap7,.slice ao8 delta.1 cap8] 33 93
    obtain ⟨t1,h1⟩:=exB (ItemP s ⟨1,seq,name,length,group,row,rows,data,delta⟩);have C:=det_b (itemIn_any s HS.out ⟨1,seq,name,length,group,row,rows,data,delta⟩ _ hi _ (layRec.rd_below HRD.out T0.bel hhi) (Nat.le_trans hhi T0.bel.size)) h1
    have HE:Hid (KindP s ⟨1,seq,name,length,group,row,rows,data,delta⟩ ↔ t1 = true):=by
      show KindP s ⟨1,seq,name,length,group,row,rows,data,delta⟩ ↔ _
      rw [h1];unfold KindP
      simp
    clear h1;unfold shapeV at C ⊢
    go_enter Tryz.func123,Tryz.ntmps123
    go_wp2_with fail
    refine C.mono ?_;rintro e w1 ⟨rfl,b1⟩;have HB:Hid (Below w.heap.size w w1):=(T0.call b1).bel;clear b1 C T0;go_wp2;go_ret
    cases t1 with
    | true => exact boolYes rfl (HE.out.2 (by simp)) HB.out
    | false => exact boolNo rfl (fun h => by have:=HE.out.1 h;simp at this) HB.out
  · have T0:=two_newb w #[.int .i64 (s 0),.int .i64 (s 1),.int .i64 (s 2),.int .i64 (s 3),.int .i64 (s 4),.int .i64 (s 5),.int .i64 (s 6),.int .i64 (s 7),.int .i64 (s 8)] #[.int .i64 2,.int .i64 seq,.string name,.int .i64 length,.int .i64 group,.int .i64 row,.slice ao6 rows.1 cap6,.slice ao7 data.1 cap7,.slice ao8 delta.1 cap8] 33 93
    obtain ⟨t1,h1⟩:=exB (InP group 0 (s 0 - 1));obtain ⟨t2,h2⟩:=exB (InP row 0 (s 4 - 1));obtain ⟨t3,h3⟩:∃ b,((data.1:Int) == s 2 * 4) = b:=⟨_,rfl⟩;obtain ⟨t4,h4⟩:∃ b,((delta.1:Int) == s 2 * 4) = b:=⟨_,rfl⟩;have C1:=fun w' => isDataGroup_b HS.out h1 w';have C2:=fun w' => isRow_b HS.out h2 w';have C3:=fun w' => rowLong_b HS.out (ao:=ao7) (cap:=cap7) (by omega) h3 w';have C4:=fun w' => rowLong_b HS.out (ao:=ao8) (cap:=cap8) (by omega) h4 w'
    have HE:Hid (KindP s ⟨2,seq,name,length,group,row,rows,data,delta⟩ ↔ (t1 = true ∧ t2 = true ∧ t3 = true ∧ t4 = true)):=by
      show KindP s ⟨2,seq,name,length,group,row,rows,data,delta⟩ ↔ _
      rw [h1,h2,← h3,← h4];unfold KindP MoveP
      simp
    clear h1 h2 h3 h4;unfold shapeV at C1 C2 C3 C4 ⊢
    go_enter Tryz.func123,Tryz.ntmps123
    go_wp2_with fail
    refine (C1 _).mono ?_;rintro e w1 ⟨rfl,b1⟩;have T1:Two w w1 #[.int .i64 (s 0),.int .i64 (s 1),.int .i64 (s 2),.int .i64 (s 3),.int .i64 (s 4),.int .i64 (s 5),.int .i64 (s 6),.int .i64 (s 7),.int .i64 (s 8)] #[.int .i64 2,.int .i64 seq,.string name,.int .i64 length,.int .i64 group,.int .i64 row,.slice ao6 rows.1 cap6,.slice ao7 data.1 cap7,.slice ao8 delta.1 cap8] 33 93:=T0.call b1;have HB1:Hid (Below w.heap.size w w1):=T1.bel;clear b1;have x1_0:w1.cell? ⟨w.heap.size,0,none⟩ = some (.int .i64 (s 0)):=T1.b1.cell 0;have y1_0:w1.cell? ⟨w.heap.size + 1,0,none⟩ = some (.int .i64 2):=T1.b2.cell 0;have x1_1:w1.cell? ⟨w.heap.size,1,none⟩ = some (.int .i64 (s 1)):=T1.b1.cell 1;have y1_1:w1.cell? ⟨w.heap.size + 1,1,none⟩ = some (.int .i64 seq):=T1.b2.cell 1;have x1_2:w1.cell? ⟨w.heap.size,2,none⟩ = some (.int .i64 (s 2)):=T1.b1.cell 2;have y1_2:w1.cell? ⟨w.heap.size + 1,2,none⟩ = some (.string name):=T1.b2.cell 2;have x1_3:w1.cell? ⟨w.heap.size,3,none⟩ = some (.int .i64 (s 3)):=T1.b1.cell 3;have y1_3:w1.cell? ⟨w.heap.size + 1,3,none⟩ = some (.int .i64 length):=T1.b2.cell 3;have x1_4:w1.cell? ⟨w.heap.size,4,none⟩ = some (.int .i64 (s 4)):=T1.b1.cell 4;have y1_4:w1.cell? ⟨w.heap.size + 1,4,none⟩ = some (.int .i64 group):=T1.b2.cell 4;have x1_5:w1.cell? ⟨w.heap.size,5,none⟩ = some (.int .i64 (s 5)):=T1.b1.cell 5;have y1_5:w1.cell? ⟨w.heap.size + 1,5,none⟩ = some (.int .i64 row):=T1.b2.cell 5;have x1_6:w1.cell? ⟨w.heap.size,6,none⟩ = some (.int .i64 (s 6)):=T1.b1.cell 6;have y1_6:w1.cell? ⟨w.heap.size + 1,6,none⟩ = some (.slice ao6 rows.1 cap6):=T1.b2.cell 6;have x1_7:w1.cell? ⟨w.heap.size,7,none⟩ = some (.int .i64 (s 7)):=T1.b1.cell 7;have y1_7:w1.cell? ⟨w.heap.size + 1,7,none⟩ = some (.slice ao7 data.1 cap7):=T1.b2.cell 7;have x1_8:w1.cell? ⟨w.heap.size,8,none⟩ = some (.int .i64 (s 8)):=T1.b1.cell 8;have y1_8:w1.cell? ⟨w.heap.size + 1,8,none⟩ = some (.slice ao8 delta.1 cap8):=T1.b2.cell 8
    cases t1 with
    | false =>
      clear T1;go_wp2;go_ret;exact boolNo rfl (fun h => by have:=HE.out.1 h;simp at this) HB1.out
    | true =>
      go_wp2_with fail
      refine (C2 _).mono ?_;rintro e w2 ⟨rfl,b2⟩;have T2:Two w w2 #[.int .i64 (s 0),.int .i64 (s 1),.int .i64 (s 2),.int .i64 (s 3),.int .i64 (s 4),.int .i64 (s 5),.int .i64 (s 6),.int .i64 (s 7),.int .i64 (s 8)] #[.int .i64 2,.int .i64 seq,.string name,.int .i64 length,.int .i64 group,.int .i64 row,.slice ao6 rows.1 cap6,.slice ao7 data.1 cap7,.slice ao8 delta.1 cap8] 33 93:=T1.call b2;have HB2:Hid (Below w.heap.size w w2):=T2.bel;clear b2;have x2_0:w2.cell? ⟨w.heap.size,0,none⟩ = some (.int .i64 (s 0)):=T2.b1.cell 0;have y2_0:w2.cell? ⟨w.heap.size + 1,0,none⟩ = some (.int .i64 2):=T2.b2.cell 0;have x2_1:w2.cell? ⟨w.heap.size,1,none⟩ = some (.int .i64 (s 1)):=T2.b1.cell 1;have y2_1:w2.cell? ⟨w.heap.size + 1,1,none⟩ = some (.int .i64 seq):=T2.b2.cell 1;have x2_2:w2.cell? ⟨w.heap.size,2,none⟩ = some (.int .i64 (s 2)):=T2.b1.cell 2;have y2_2:w2.cell? ⟨w.heap.size + 1,2,none⟩ = some (.string name):=T2.b2.cell 2;have x2_3:w2.cell? ⟨w.heap.size,3,none⟩ = some (.int .i64 (s 3)):=T2.b1.cell 3;have y2_3:w2.cell? ⟨w.heap.size + 1,3,none⟩ = some (.int .i64 length):=T2.b2.cell 3;have x2_4:w2.cell? ⟨w.heap.size,4,none⟩ = some (.int .i64 (s 4)):=T2.b1.cell 4;have y2_4:w2.cell? ⟨w.heap.size + 1,4,none⟩ = some (.int .i64 group):=T2.b2.cell 4;have x2_5:w2.cell? ⟨w.heap.size,5,none⟩ = some (.int .i64 (s 5)):=T2.b1.cell 5;have y2_5:w2.cell? ⟨w.heap.size + 1,5,none⟩ = some (.int .i64 row):=T2.b2.cell 5;have x2_6:w2.cell? ⟨w.heap.size,6,none⟩ = some (.int .i64 (s 6)):=T2.b1.cell 6;have y2_6:w2.cell? ⟨w.heap.size + 1,6,none⟩ = some (.slice ao6 rows.1 cap6):=T2.b2.cell 6;have x2_7:w2.cell? ⟨w.heap.size,7,none⟩ = some (.int .i64 (s 7)):=T2.b1.cell 7;have y2_7:w2.cell? ⟨w.heap.size + 1,7,none⟩ = some (.slice ao7 data.1 cap7):=T2.b2.cell 7;have x2_8:w2.cell? ⟨w.heap.size,8,none⟩ = some (.int .i64 (s 8)):=T2.b1.cell 8;have y2_8:w2.cell? ⟨w.heap.size + 1,8,none⟩ = some (.slice ao8 delta.1 cap8):=T2.b2.cell 8
      cases t2 with
      | false =>
        clear T2;go_wp2;go_ret;exact boolNo rfl (fun h => by have:=HE.out.1 h;simp at this) HB2.out
      | true =>
        go_wp2_with fail
        refine (C3 _).mono ?_;rintro e w3 ⟨rfl,b3⟩;have T3:Two w w3 #[.int .i64 (s 0),.int .i64 (s 1),.int .i64 (s 2),.int .i64 (s 3),.int .i64 (s 4),.int .i64 (s 5),.int .i64 (s 6),.int .i64 (s 7),.int .i64 (s 8)] #[.int .i64 2,.int .i64 seq,.string name,.int .i64 length,.int .i64 group,.int .i64 row,.slice ao6 rows.1 cap6,.slice ao7 data.1 cap7,.slice ao8 delta.1 cap8] 33 93:=T2.call b3;have HB3:Hid (Below w.heap.size w w3):=T3.bel;clear b3;have x3_0:w3.cell? ⟨w.heap.size,0,none⟩ = some (.int .i64 (s 0)):=T3.b1.cell 0;have y3_0:w3.cell? ⟨w.heap.size + 1,0,none⟩ = some (.int .i64 2):=T3.b2.cell 0;have x3_1:w3.cell? ⟨w.heap.size,1,none⟩ = some (.int .i64 (s 1)):=T3.b1.cell 1;have y3_1:w3.cell? ⟨w.heap.size + 1,1,none⟩ = some (.int .i64 seq):=T3.b2.cell 1;have x3_2:w3.cell? ⟨w.heap.size,2,none⟩ = some (.int .i64 (s 2)):=T3.b1.cell 2;have y3_2:w3.cell? ⟨w.heap.size + 1,2,none⟩ = some (.string name):=T3.b2.cell 2;have x3_3:w3.cell? ⟨w.heap.size,3,none⟩ = some (.int .i64 (s 3)):=T3.b1.cell 3;have y3_3:w3.cell? ⟨w.heap.size + 1,3,none⟩ = some (.int .i64 length):=T3.b2.cell 3;have x3_4:w3.cell? ⟨w.heap.size,4,none⟩ = some (.int .i64 (s 4)):=T3.b1.cell 4;have y3_4:w3.cell? ⟨w.heap.size + 1,4,none⟩ = some (.int .i64 group):=T3.b2.cell 4;have x3_5:w3.cell? ⟨w.heap.size,5,none⟩ = some (.int .i64 (s 5)):=T3.b1.cell 5;have y3_5:w3.cell? ⟨w.heap.size + 1,5,none⟩ = some (.int .i64 row):=T3.b2.cell 5;have x3_6:w3.cell? ⟨w.heap.size,6,none⟩ = some (.int .i64 (s 6)):=T3.b1.cell 6;have y3_6:w3.cell? ⟨w.heap.size + 1,6,none⟩ = some (.slice ao6 rows.1 cap6):=T3.b2.cell 6;have x3_7:w3.cell? ⟨w.heap.size,7,none⟩ = some (.int .i64 (s 7)):=T3.b1.cell 7;have y3_7:w3.cell? ⟨w.heap.size + 1,7,none⟩ = some (.slice ao7 data.1 cap7):=T3.b2.cell 7;have x3_8:w3.cell? ⟨w.heap.size,8,none⟩ = some (.int .i64 (s 8)):=T3.b1.cell 8;have y3_8:w3.cell? ⟨w.heap.size + 1,8,none⟩ = some (.slice ao8 delta.1 cap8):=T3.b2.cell 8
        cases t3 with
        | false =>
          clear T3;go_wp2;go_ret;exact boolNo rfl (fun h => by have:=HE.out.1 h;simp at this) HB3.out
        | true =>
          go_wp2_with fail
          refine (C4 _).mono ?_;rintro e w4 ⟨rfl,b4⟩;have T4:Two w w4 #[.int .i64 (s 0),.int .i64 (s 1),.int .i64 (s 2),.int .i64 (s 3),.int .i64 (s 4),.int .i64 (s 5),.int .i64 (s 6),.int .i64 (s 7),.int .i64 (s 8)] #[.int .i64 2,.int .i64 seq,.string name,.int .i64 length,.int .i64 group,.int .i64 row,.slice ao6 rows.1 cap6,.slice ao7 data.1 cap7,.slice ao8 delta.1 cap8] 33 93:=T3.call b4;have HB4:Hid (Below w.heap.size w w4):=T4.bel;clear b4
          cases t4 with
          | false =>
            clear T4;go_wp2;go_ret;exact boolNo rfl (fun h => by have:=HE.out.1 h;simp at this) HB4.out
          | true =>
            clear T4;go_wp2;go_ret;exact boolYes rfl (HE.out.2 (by simp)) HB4.out
  · have T0:=two_newb w #[.int .i64 (s 0),.int .i64 (s 1),.int .i64 (s 2),.int .i64 (s 3),.int .i64 (s 4),.int .i64 (s 5),.int .i64 (s 6),.int .i64 (s 7),.int .i64 (s 8)] #[.int .i64 3,.int .i64 seq,.string name,.int .i64 length,.int .i64 group,.int .i64 row,.slice ao6 rows.1 cap6,.slice ao7 data.1 cap7,.slice ao8 delta.1 cap8] 33 93
    obtain ⟨t1,h1⟩:=exB (InP group 0 (s 0 + s 1 - 1));have C:=fun w' => isGroup_b HS.out h1 w'
    have HE:Hid (KindP s ⟨3,seq,name,length,group,row,rows,data,delta⟩ ↔ t1 = true):=by
      show KindP s ⟨3,seq,name,length,group,row,rows,data,delta⟩ ↔ _
      rw [h1];unfold KindP DoneP
      simp
    clear h1;unfold shapeV at C ⊢
    go_enter Tryz.func123,Tryz.ntmps123
    go_wp2_with fail
    refine (C _).mono ?_;rintro e w1 ⟨rfl,b1⟩;have HB:Hid (Below w.heap.size w w1):=(T0.call b1).bel;clear b1 C T0;go_wp2;go_ret
    cases t1 with
    | true => exact boolYes rfl (HE.out.2 (by simp)) HB.out
    | false => exact boolNo rfl (fun h => by have:=HE.out.1 h;simp at this) HB.out
  · have T0:=two_newb w #[.int .i64 (s 0),.int .i64 (s 1),.int .i64 (s 2),.int .i64 (s 3),.int .i64 (s 4),.int .i64 (s 5),.int .i64 (s 6),.int .i64 (s 7),.int .i64 (s 8)] #[.int .i64 4,.int .i64 seq,.string name,.int .i64 length,.int .i64 group,.int .i64 row,.slice ao6 rows.1 cap6,.slice ao7 data.1 cap7,.slice ao8 delta.1 cap8] 33 93
    obtain ⟨t1,h1⟩:=exB (ShareP s ⟨4,seq,name,length,group,row,rows,data,delta⟩);have C:=det_b (shareIn_any s HS.out ⟨4,seq,name,length,group,row,rows,data,delta⟩ _ hi _ (layRec.rd_below HRD.out T0.bel hhi) (Nat.le_trans hhi T0.bel.size)) h1
    have HE:Hid (KindP s ⟨4,seq,name,length,group,row,rows,data,delta⟩ ↔ t1 = true):=by
      show KindP s ⟨4,seq,name,length,group,row,rows,data,delta⟩ ↔ _
      rw [h1];unfold KindP
      simp
    clear h1;unfold shapeV at C ⊢
    go_enter Tryz.func123,Tryz.ntmps123
    go_wp2_with fail
    refine C.mono ?_;rintro e w1 ⟨rfl,b1⟩;have HB:Hid (Below w.heap.size w w1):=(T0.call b1).bel;clear b1 C T0;go_wp2;go_ret
    cases t1 with
    | true => exact boolYes rfl (HE.out.2 (by simp)) HB.out
    | false => exact boolNo rfl (fun h => by have:=HE.out.1 h;simp at this) HB.out
set_option maxHeartbeats 16000000 in
set_option maxRecDepth 20000 in
theorem implRec_any (s:Nat → Int) (r:RecD) (cs:List Value) (hi:Nat) (w:World) (h:layRec.rd w hi r cs) (hhi:hi ≤ w.heap.size) (hnm:r.name.size ≤ 1048576) :
    Calls Tryz.prog 101 #[shapeV s,.agg cs.toArray] w (RecPost s r w):=by
  obtain ⟨kind,seq,name,length,group,row,rows,data,delta⟩:=r;obtain ⟨ao6,cap6,ao7,cap7,ao8,cap8,rfl,-⟩:=Rec_rd h;have HRD:Hid (layRec.rd w hi ⟨kind,seq,name,length,group,row,rows,data,delta⟩ [.int .i64 kind,.int .i64 seq,.string name,.int .i64 length,.int .i64 group,.int .i64 row,.slice ao6 rows.1 cap6,.slice ao7 data.1 cap7,.slice ao8 delta.1 cap8]):=h
  simp only at hnm
  clear h;have T0:=two_newb w #[.int .i64 (s 0),.int .i64 (s 1),.int .i64 (s 2),.int .i64 (s 3),.int .i64 (s 4),.int .i64 (s 5),.int .i64 (s 6),.int .i64 (s 7),.int .i64 (s 8)] #[.int .i64 kind,.int .i64 seq,.string name,.int .i64 length,.int .i64 group,.int .i64 row,.slice ao6 rows.1 cap6,.slice ao7 data.1 cap7,.slice ao8 delta.1 cap8] 33 93;have CSh:=fun w' => implShape_any s w';unfold shapeV at CSh ⊢
  go_enter Tryz.func101,Tryz.ntmps101
  go_wp2_with fail
  refine (CSh _).mono ?_;rintro e w1 ⟨x,rfl,hx,b1⟩;have T1:Two w w1 #[.int .i64 (s 0),.int .i64 (s 1),.int .i64 (s 2),.int .i64 (s 3),.int .i64 (s 4),.int .i64 (s 5),.int .i64 (s 6),.int .i64 (s 7),.int .i64 (s 8)] #[.int .i64 kind,.int .i64 seq,.string name,.int .i64 length,.int .i64 group,.int .i64 row,.slice ao6 rows.1 cap6,.slice ao7 data.1 cap7,.slice ao8 delta.1 cap8] 33 93:=T0.call b1;have HT1:Hid (Two w w1 #[.int .i64 (s 0),.int .i64 (s 1),.int .i64 (s 2),.int .i64 (s 3),.int .i64 (s 4),.int .i64 (s 5),.int .i64 (s 6),.int .i64 (s 7),.int .i64 (s 8)] #[.int .i64 kind,.int .i64 seq,.string name,.int .i64 length,.int .i64 group,.int .i64 row,.slice ao6 rows.1 cap6,.slice ao7 data.1 cap7,.slice ao8 delta.1 cap8] 33 93):=T1;clear b1 T0 CSh;have x1_0:w1.cell? ⟨w.heap.size,0,none⟩ = some (.int .i64 (s 0)):=T1.b1.cell 0;have y1_0:w1.cell? ⟨w.heap.size + 1,0,none⟩ = some (.int .i64 kind):=T1.b2.cell 0;have x1_1:w1.cell? ⟨w.heap.size,1,none⟩ = some (.int .i64 (s 1)):=T1.b1.cell 1;have y1_1:w1.cell? ⟨w.heap.size + 1,1,none⟩ = some (.int .i64 seq):=T1.b2.cell 1;have x1_2:w1.cell? ⟨w.heap.size,2,none⟩ = some (.int .i64 (s 2)):=T1.b1.cell 2;have y1_2:w1.cell? ⟨w.heap.size + 1,2,none⟩ = some (.string name):=T1.b2.cell 2;have x1_3:w1.cell? ⟨w.heap.size,3,none⟩ = some (.int .i64 (s 3)):=T1.b1.cell 3;have y1_3:w1.cell? ⟨w.heap.size + 1,3,none⟩ = some (.int .i64 length):=T1.b2.cell 3;have x1_4:w1.cell? ⟨w.heap.size,4,none⟩ = some (.int .i64 (s 4)):=T1.b1.cell 4;have y1_4:w1.cell? ⟨w.heap.size + 1,4,none⟩ = some (.int .i64 group):=T1.b2.cell 4;have x1_5:w1.cell? ⟨w.heap.size,5,none⟩ = some (.int .i64 (s 5)):=T1.b1.cell 5;have y1_5:w1.cell? ⟨w.heap.size + 1,5,none⟩ = some (.int .i64 row):=T1.b2.cell 5;have x1_6:w1.cell? ⟨w.heap.size,6,none⟩ = some (.int .i64 (s 6)):=T1.b1.cell 6;have y1_6:w1.cell? ⟨w.heap.size + 1,6,none⟩ = some (.slice ao6 rows.1 cap6):=T1.b2.cell 6;have x1_7:w1.cell? ⟨w.heap.size,7,none⟩ = some (.int .i64 (s 7)):=T1.b1.cell 7;have y1_7:w1.cell? ⟨w.heap.size + 1,7,none⟩ = some (.slice ao7 data.1 cap7):=T1.b2.cell 7;have x1_8:w1.cell? ⟨w.heap.size,8,none⟩ = some (.int .i64 (s 8)):=T1.b1.cell 8;have y1_8:w1.cell? ⟨w.heap.size + 1,8,none⟩ = some (.slice ao8 delta.1 cap8):=T1.b2.cell 8;clear T1
  rcases hx with ⟨rfl,hno⟩ | ⟨rfl,hok⟩
  · go_wp2
    go_ret;exact recP rfl (Stair.fall hno) HT1.out.bel
  have HOK:Hid (OkShape s):=hok;clear hok
  by_cases hk:InP kind 1 4
  · go_wp2_with fail
    refine (inBounds_b (t:=true) (by omega) (exBT hk) _).mono ?_;rintro e w' ⟨rfl,hw'⟩;obtain rfl:=hw'.symm
    by_cases hq:InP seq 1 1000000000
    · go_wp2_with fail
      refine (inBounds_b (t:=true) (by omega) (exBT hq) _).mono ?_;rintro e w' ⟨rfl,hw'⟩;obtain rfl:=hw'.symm;have HK:Hid (InP kind 1 4):=hk;have HQ:Hid (InP seq 1 1000000000):=hq
      have hk4:kind = 1 ∨ kind = 2 ∨ kind = 3 ∨ kind = 4:=by unfold InP at hk;omega
      clear hk hq
      rcases hk4 with rfl | rfl | rfl | rfl
      · go_wp2_with fail
        refine (implName_any name hnm _).mono ?_;rintro e w' ⟨x,rfl,hx,hw'⟩;obtain rfl:=hw'.symm
        rcases hx with ⟨rfl,hno⟩ | ⟨rfl,hyes⟩
        · go_wp2
          go_ret;exact recP rfl (Stair.pass HOK.out (Stair.pass HK.out (Stair.pass HQ.out (Stair.fall (fun h => hno (h rfl)))))) HT1.out.bel
        have HN:Hid (NamedP ⟨1,seq,name,length,group,row,rows,data,delta⟩):=fun _ => hyes;clear hyes;obtain ⟨t5,h5⟩:=exB (KindP s ⟨1,seq,name,length,group,row,rows,data,delta⟩);have C5:=det_b (recIn_any s HOK.out ⟨1,seq,name,length,group,row,rows,data,delta⟩ _ hi w1 (layRec.rd_below HRD.out HT1.out.bel hhi) (Nat.le_trans hhi HT1.out.bel.size) HK.out) h5;have H5:Hid (t5 = true ↔ KindP s ⟨1,seq,name,length,group,row,rows,data,delta⟩):=h5;unfold shapeV at C5;clear h5
        go_wp2_with fail
        refine C5.mono ?_;rintro e w5 ⟨rfl,b5⟩;have T5:Two w w5 #[.int .i64 (s 0),.int .i64 (s 1),.int .i64 (s 2),.int .i64 (s 3),.int .i64 (s 4),.int .i64 (s 5),.int .i64 (s 6),.int .i64 (s 7),.int .i64 (s 8)] #[.int .i64 1,.int .i64 seq,.string name,.int .i64 length,.int .i64 group,.int .i64 row,.slice ao6 rows.1 cap6,.slice ao7 data.1 cap7,.slice ao8 delta.1 cap8] 33 93:=HT1.out.call b5;have HB5:Hid (Below w.heap.size w w5):=T5.bel;clear b5 C5;have x5_0:w5.cell? ⟨w.heap.size,0,none⟩ = some (.int .i64 (s 0)):=T5.b1.cell 0;have y5_0:w5.cell? ⟨w.heap.size + 1,0,none⟩ = some (.int .i64 1):=T5.b2.cell 0;have x5_1:w5.cell? ⟨w.heap.size,1,none⟩ = some (.int .i64 (s 1)):=T5.b1.cell 1;have y5_1:w5.cell? ⟨w.heap.size + 1,1,none⟩ = some (.int .i64 seq):=T5.b2.cell 1;have x5_2:w5.cell? ⟨w.heap.size,2,none⟩ = some (.int .i64 (s 2)):=T5.b1.cell 2;have y5_2:w5.cell? ⟨w.heap.size + 1,2,none⟩ = some (.string name):=T5.b2.cell 2;have x5_3:w5.cell? ⟨w.heap.size,3,none⟩ = some (.int .i64 (s 3)):=T5.b1.cell 3;have y5_3:w5.cell? ⟨w.heap.size + 1,3,none⟩ = some (.int .i64 length):=T5.b2.cell 3;have x5_4:w5.cell? ⟨w.heap.size,4,none⟩ = some (.int .i64 (s 4)):=T5.b1.cell 4;have y5_4:w5.cell? ⟨w.heap.size + 1,4,none⟩ = some (.int .i64 group):=T5.b2.cell 4;have x5_5:w5.cell? ⟨w.heap.size,5,none⟩ = some (.int .i64 (s 5)):=T5.b1.cell 5;have y5_5:w5.cell? ⟨w.heap.size + 1,5,none⟩ = some (.int .i64 row):=T5.b2.cell 5;have x5_6:w5.cell? ⟨w.heap.size,6,none⟩ = some (.int .i64 (s 6)):=T5.b1.cell 6;have y5_6:w5.cell? ⟨w.heap.size + 1,6,none⟩ = some (.slice ao6 rows.1 cap6):=T5.b2.cell 6;have x5_7:w5.cell? ⟨w.heap.size,7,none⟩ = some (.int .i64 (s 7)):=T5.b1.cell 7;have y5_7:w5.cell? ⟨w.heap.size + 1,7,none⟩ = some (.slice ao7 data.1 cap7):=T5.b2.cell 7;have x5_8:w5.cell? ⟨w.heap.size,8,none⟩ = some (.int .i64 (s 8)):=T5.b1.cell 8;have y5_8:w5.cell? ⟨w.heap.size + 1,8,none⟩ = some (.slice ao8 delta.1 cap8):=T5.b2.cell 8;clear T5
        cases t5 with
        | false =>
          go_wp2;go_ret;exact recP rfl (Stair.pass HOK.out (Stair.pass HK.out (Stair.pass HQ.out (Stair.pass HN.out (Stair.fall (fun h => by have:=H5.out.2 h;simp at this)))))) HB5.out
        | true =>
          have HKP:Hid (KindP s ⟨1,seq,name,length,group,row,rows,data,delta⟩):=H5.out.1 (by simp)
          go_wp2_with fail
          refine (unnamed1 seq name length group row rows data delta ao6 ao7 ao8 cap6 cap7 cap8 _).mono ?_;rintro e w6 ⟨rfl,b6⟩;have HB6:Hid (Below w.heap.size w w6):=HB5.out.trans (b6.mono HB5.out.size);clear b6
          go_wp2_with fail
          refine (isBlank_any _ _ _ _ _ _ _ _ _ _ _ _ _ _ _ _).mono ?_;rintro e w7 ⟨t9,rfl,ht9,b7⟩;have HB7:Hid (Below w.heap.size w w7):=HB6.out.trans (b7.mono HB6.out.size);clear b7
          have HT9:Hid (t9 = true ↔ BlankP ⟨1,seq,name,length,group,row,rows,data,delta⟩):=by
            show t9 = true ↔ BlankP ⟨1,seq,name,length,group,row,rows,data,delta⟩
            rw [ht9];unfold BlankQ EmptyQ BlankP noName
            simp [and_assoc]
            try (intros;rfl)
          clear ht9
          cases t9 with
          | false =>
            go_wp2;go_ret;exact recP rfl (Stair.pass HOK.out (Stair.pass HK.out (Stair.pass HQ.out (Stair.pass HN.out (Stair.pass HKP.out (Stair.fall (fun h => by have:=HT9.out.2 h;simp at this))))))) HB7.out
          | true =>
            go_wp2;go_ret;exact recP rfl (Stair.pass HOK.out (Stair.pass HK.out (Stair.pass HQ.out (Stair.pass HN.out (Stair.pass HKP.out (Stair.pass (HT9.out.1 (by simp)) (Stair.last rfl))))))) HB7.out
      · have HN:Hid (NamedP ⟨2,seq,name,length,group,row,rows,data,delta⟩):=fun h => by simp at h
        obtain ⟨t5,h5⟩:=exB (KindP s ⟨2,seq,name,length,group,row,rows,data,delta⟩);have C5:=det_b (recIn_any s HOK.out ⟨2,seq,name,length,group,row,rows,data,delta⟩ _ hi w1 (layRec.rd_below HRD.out HT1.out.bel hhi) (Nat.le_trans hhi HT1.out.bel.size) HK.out) h5;have H5:Hid (t5 = true ↔ KindP s ⟨2,seq,name,length,group,row,rows,data,delta⟩):=h5;unfold shapeV at C5;clear h5
        go_wp2_with fail
        refine C5.mono ?_;rintro e w5 ⟨rfl,b5⟩;have T5:Two w w5 #[.int .i64 (s 0),.int .i64 (s 1),.int .i64 (s 2),.int .i64 (s 3),.int .i64 (s 4),.int .i64 (s 5),.int .i64 (s 6),.int .i64 (s 7),.int .i64 (s 8)] #[.int .i64 2,.int .i64 seq,.string name,.int .i64 length,.int .i64 group,.int .i64 row,.slice ao6 rows.1 cap6,.slice ao7 data.1 cap7,.slice ao8 delta.1 cap8] 33 93:=HT1.out.call b5;have HB5:Hid (Below w.heap.size w w5):=T5.bel;clear b5 C5;have x5_0:w5.cell? ⟨w.heap.size,0,none⟩ = some (.int .i64 (s 0)):=T5.b1.cell 0;have y5_0:w5.cell? ⟨w.heap.size + 1,0,none⟩ = some (.int .i64 2):=T5.b2.cell 0;have x5_1:w5.cell? ⟨w.heap.size,1,none⟩ = some (.int .i64 (s 1)):=T5.b1.cell 1;have y5_1:w5.cell? ⟨w.heap.size + 1,1,none⟩ = some (.int .i64 seq):=T5.b2.cell 1;have x5_2:w5.cell? ⟨w.heap.size,2,none⟩ = some (.int .i64 (s 2)):=T5.b1.cell 2;have y5_2:w5.cell? ⟨w.heap.size + 1,2,none⟩ = some (.string name):=T5.b2.cell 2;have x5_3:w5.cell? ⟨w.heap.size,3,none⟩ = some (.int .i64 (s 3)):=T5.b1.cell 3;have y5_3:w5.cell? ⟨w.heap.size + 1,3,none⟩ = some (.int .i64 length):=T5.b2.cell 3;have x5_4:w5.cell? ⟨w.heap.size,4,none⟩ = some (.int .i64 (s 4)):=T5.b1.cell 4;have y5_4:w5.cell? ⟨w.heap.size + 1,4,none⟩ = some (.int .i64 group):=T5.b2.cell 4;have x5_5:w5.cell? ⟨w.heap.size,5,none⟩ = some (.int .i64 (s 5)):=T5.b1.cell 5;have y5_5:w5.cell? ⟨w.heap.size + 1,5,none⟩ = some (.int .i64 row):=T5.b2.cell 5;have x5_6:w5.cell? ⟨w.heap.size,6,none⟩ = some (.int .i64 (s 6)):=T5.b1.cell 6;have y5_6:w5.cell? ⟨w.heap.size + 1,6,none⟩ = some (.slice ao6 rows.1 cap6):=T5.b2.cell 6;have x5_7:w5.cell? ⟨w.heap.size,7,none⟩ = some (.int .i64 (s 7)):=T5.b1.cell 7;have y5_7:w5.cell? ⟨w.heap.size + 1,7,none⟩ = some (.slice ao7 data.1 cap7):=T5.b2.cell 7;have x5_8:w5.cell? ⟨w.heap.size,8,none⟩ = some (.int .i64 (s 8)):=T5.b1.cell 8;have y5_8:w5.cell? ⟨w.heap.size + 1,8,none⟩ = some (.slice ao8 delta.1 cap8):=T5.b2.cell 8;clear T5
        cases t5 with
        | false =>
          go_wp2;go_ret;exact recP rfl (Stair.pass HOK.out (Stair.pass HK.out (Stair.pass HQ.out (Stair.pass HN.out (Stair.fall (fun h => by have:=H5.out.2 h;simp at this)))))) HB5.out
        | true =>
          have HKP:Hid (KindP s ⟨2,seq,name,length,group,row,rows,data,delta⟩):=H5.out.1 (by simp)
          go_wp2_with fail
          refine (unnamed2 seq name length group row rows data delta ao6 ao7 ao8 cap6 cap7 cap8 _).mono ?_;rintro e w6 ⟨rfl,b6⟩;have HB6:Hid (Below w.heap.size w w6):=HB5.out.trans (b6.mono HB5.out.size);clear b6
          go_wp2_with fail
          refine (isBlank_any _ _ _ _ _ _ _ _ _ _ _ _ _ _ _ _).mono ?_;rintro e w7 ⟨t9,rfl,ht9,b7⟩;have HB7:Hid (Below w.heap.size w w7):=HB6.out.trans (b7.mono HB6.out.size);clear b7
          have HT9:Hid (t9 = true ↔ BlankP ⟨2,seq,name,length,group,row,rows,data,delta⟩):=by
            show t9 = true ↔ BlankP ⟨2,seq,name,length,group,row,rows,data,delta⟩
            rw [ht9];unfold BlankQ EmptyQ BlankP noName
            simp [and_assoc]
            try (intros;rfl)
          clear ht9
          cases t9 with
          | false =>
            go_wp2;go_ret;exact recP rfl (Stair.pass HOK.out (Stair.pass HK.out (Stair.pass HQ.out (Stair.pass HN.out (Stair.pass HKP.out (Stair.fall (fun h => by have:=HT9.out.2 h;simp at this))))))) HB7.out
          | true =>
            go_wp2;go_ret;exact recP rfl (Stair.pass HOK.out (Stair.pass HK.out (Stair.pass HQ.out (Stair.pass HN.out (Stair.pass HKP.out (Stair.pass (HT9.out.1 (by simp)) (Stair.last rfl))))))) HB7.out
      · have HN:Hid (NamedP ⟨3,seq,name,length,group,row,rows,data,delta⟩):=fun h => by simp at h
        obtain ⟨t5,h5⟩:=exB (KindP s ⟨3,seq,name,length,group,row,rows,data,delta⟩);have C5:=det_b (recIn_any s HOK.out ⟨3,seq,name,length,group,row,rows,data,delta⟩ _ hi w1 (layRec.rd_below HRD.out HT1.out.bel hhi) (Nat.le_trans hhi HT1.out.bel.size) HK.out) h5;have H5:Hid (t5 = true ↔ KindP s ⟨3,seq,name,length,group,row,rows,data,delta⟩):=h5;unfold shapeV at C5;clear h5
        go_wp2_with fail
        refine C5.mono ?_;rintro e w5 ⟨rfl,b5⟩;have T5:Two w w5 #[.int .i64 (s 0),.int .i64 (s 1),.int .i64 (s 2),.int .i64 (s 3),.int .i64 (s 4),.int .i64 (s 5),.int .i64 (s 6),.int .i64 (s 7),.int .i64 (s 8)] #[.int .i64 3,.int .i64 seq,.string name,.int .i64 length,.int .i64 group,.int .i64 row,.slice ao6 rows.1 cap6,.slice ao7 data.1 cap7,.slice ao8 delta.1 cap8] 33 93:=HT1.out.call b5;have HB5:Hid (Below w.heap.size w w5):=T5.bel;clear b5 C5;have x5_0:w5.cell? ⟨w.heap.size,0,none⟩ = some (.int .i64 (s 0)):=T5.b1.cell 0;have y5_0:w5.cell? ⟨w.heap.size + 1,0,none⟩ = some (.int .i64 3):=T5.b2.cell 0;have x5_1:w5.cell? ⟨w.heap.size,1,none⟩ = some (.int .i64 (s 1)):=T5.b1.cell 1;have y5_1:w5.cell? ⟨w.heap.size + 1,1,none⟩ = some (.int .i64 seq):=T5.b2.cell 1;have x5_2:w5.cell? ⟨w.heap.size,2,none⟩ = some (.int .i64 (s 2)):=T5.b1.cell 2;have y5_2:w5.cell? ⟨w.heap.size + 1,2,none⟩ = some (.string name):=T5.b2.cell 2;have x5_3:w5.cell? ⟨w.heap.size,3,none⟩ = some (.int .i64 (s 3)):=T5.b1.cell 3;have y5_3:w5.cell? ⟨w.heap.size + 1,3,none⟩ = some (.int .i64 length):=T5.b2.cell 3;have x5_4:w5.cell? ⟨w.heap.size,4,none⟩ = some (.int .i64 (s 4)):=T5.b1.cell 4;have y5_4:w5.cell? ⟨w.heap.size + 1,4,none⟩ = some (.int .i64 group):=T5.b2.cell 4;have x5_5:w5.cell? ⟨w.heap.size,5,none⟩ = some (.int .i64 (s 5)):=T5.b1.cell 5;have y5_5:w5.cell? ⟨w.heap.size + 1,5,none⟩ = some (.int .i64 row):=T5.b2.cell 5;have x5_6:w5.cell? ⟨w.heap.size,6,none⟩ = some (.int .i64 (s 6)):=T5.b1.cell 6;have y5_6:w5.cell? ⟨w.heap.size + 1,6,none⟩ = some (.slice ao6 rows.1 cap6):=T5.b2.cell 6;have x5_7:w5.cell? ⟨w.heap.size,7,none⟩ = some (.int .i64 (s 7)):=T5.b1.cell 7;have y5_7:w5.cell? ⟨w.heap.size + 1,7,none⟩ = some (.slice ao7 data.1 cap7):=T5.b2.cell 7;have x5_8:w5.cell? ⟨w.heap.size,8,none⟩ = some (.int .i64 (s 8)):=T5.b1.cell 8;have y5_8:w5.cell? ⟨w.heap.size + 1,8,none⟩ = some (.slice ao8 delta.1 cap8):=T5.b2.cell 8;clear T5
        cases t5 with
        | false =>
          go_wp2;go_ret;exact recP rfl (Stair.pass HOK.out (Stair.pass HK.out (Stair.pass HQ.out (Stair.pass HN.out (Stair.fall (fun h => by have:=H5.out.2 h;simp at this)))))) HB5.out
        | true =>
          have HKP:Hid (KindP s ⟨3,seq,name,length,group,row,rows,data,delta⟩):=H5.out.1 (by simp)
          go_wp2_with fail
          refine (unnamed3 seq name length group row rows data delta ao6 ao7 ao8 cap6 cap7 cap8 _).mono ?_;rintro e w6 ⟨rfl,b6⟩;have HB6:Hid (Below w.heap.size w w6):=HB5.out.trans (b6.mono HB5.out.size);clear b6
          go_wp2_with fail
          refine (isBlank_any _ _ _ _ _ _ _ _ _ _ _ _ _ _ _ _).mono ?_;rintro e w7 ⟨t9,rfl,ht9,b7⟩;have HB7:Hid (Below w.heap.size w w7):=HB6.out.trans (b7.mono HB6.out.size);clear b7
          have HT9:Hid (t9 = true ↔ BlankP ⟨3,seq,name,length,group,row,rows,data,delta⟩):=by
            show t9 = true ↔ BlankP ⟨3,seq,name,length,group,row,rows,data,delta⟩
            rw [ht9];unfold BlankQ EmptyQ BlankP noName
            simp [and_assoc]
            try (intros;rfl)
          clear ht9
          cases t9 with
          | false =>
            go_wp2;go_ret;exact recP rfl (Stair.pass HOK.out (Stair.pass HK.out (Stair.pass HQ.out (Stair.pass HN.out (Stair.pass HKP.out (Stair.fall (fun h => by have:=HT9.out.2 h;simp at this))))))) HB7.out
          | true =>
            go_wp2;go_ret;exact recP rfl (Stair.pass HOK.out (Stair.pass HK.out (Stair.pass HQ.out (Stair.pass HN.out (Stair.pass HKP.out (Stair.pass (HT9.out.1 (by simp)) (Stair.last rfl))))))) HB7.out
      · have HN:Hid (NamedP ⟨4,seq,name,length,group,row,rows,data,delta⟩):=fun h => by simp at h
        obtain ⟨t5,h5⟩:=exB (KindP s ⟨4,seq,name,length,group,row,rows,data,delta⟩);have C5:=det_b (recIn_any s HOK.out ⟨4,seq,name,length,group,row,rows,data,delta⟩ _ hi w1 (layRec.rd_below HRD.out HT1.out.bel hhi) (Nat.le_trans hhi HT1.out.bel.size) HK.out) h5;have H5:Hid (t5 = true ↔ KindP s ⟨4,seq,name,length,group,row,rows,data,delta⟩):=h5;unfold shapeV at C5;clear h5
        go_wp2_with fail
        refine C5.mono ?_;rintro e w5 ⟨rfl,b5⟩;have T5:Two w w5 #[.int .i64 (s 0),.int .i64 (s 1),.int .i64 (s 2),.int .i64 (s 3),.int .i64 (s 4),.int .i64 (s 5),.int .i64 (s 6),.int .i64 (s 7),.int .i64 (s 8)] #[.int .i64 4,.int .i64 seq,.string name,.int .i64 length,.int .i64 group,.int .i64 row,.slice ao6 rows.1 cap6,.slice ao7 data.1 cap7,.slice ao8 delta.1 cap8] 33 93:=HT1.out.call b5;have HB5:Hid (Below w.heap.size w w5):=T5.bel;clear b5 C5;have x5_0:w5.cell? ⟨w.heap.size,0,none⟩ = some (.int .i64 (s 0)):=T5.b1.cell 0;have y5_0:w5.cell? ⟨w.heap.size + 1,0,none⟩ = some (.int .i64 4):=T5.b2.cell 0;have x5_1:w5.cell? ⟨w.heap.size,1,none⟩ = some (.int .i64 (s 1)):=T5.b1.cell 1;have y5_1:w5.cell? ⟨w.heap.size + 1,1,none⟩ = some (.int .i64 seq):=T5.b2.cell 1;have x5_2:w5.cell? ⟨w.heap.size,2,none⟩ = some (.int .i64 (s 2)):=T5.b1.cell 2;have y5_2:w5.cell? ⟨w.heap.size + 1,2,none⟩ = some (.string name):=T5.b2.cell 2;have x5_3:w5.cell? ⟨w.heap.size,3,none⟩ = some (.int .i64 (s 3)):=T5.b1.cell 3;have y5_3:w5.cell? ⟨w.heap.size + 1,3,none⟩ = some (.int .i64 length):=T5.b2.cell 3;have x5_4:w5.cell? ⟨w.heap.size,4,none⟩ = some (.int .i64 (s 4)):=T5.b1.cell 4;have y5_4:w5.cell? ⟨w.heap.size + 1,4,none⟩ = some (.int .i64 group):=T5.b2.cell 4;have x5_5:w5.cell? ⟨w.heap.size,5,none⟩ = some (.int .i64 (s 5)):=T5.b1.cell 5;have y5_5:w5.cell? ⟨w.heap.size + 1,5,none⟩ = some (.int .i64 row):=T5.b2.cell 5;have x5_6:w5.cell? ⟨w.heap.size,6,none⟩ = some (.int .i64 (s 6)):=T5.b1.cell 6;have y5_6:w5.cell? ⟨w.heap.size + 1,6,none⟩ = some (.slice ao6 rows.1 cap6):=T5.b2.cell 6;have x5_7:w5.cell? ⟨w.heap.size,7,none⟩ = some (.int .i64 (s 7)):=T5.b1.cell 7;have y5_7:w5.cell? ⟨w.heap.size + 1,7,none⟩ = some (.slice ao7 data.1 cap7):=T5.b2.cell 7;have x5_8:w5.cell? ⟨w.heap.size,8,none⟩ = some (.int .i64 (s 8)):=T5.b1.cell 8;have y5_8:w5.cell? ⟨w.heap.size + 1,8,none⟩ = some (.slice ao8 delta.1 cap8):=T5.b2.cell 8;clear T5
        cases t5 with
        | false =>
          go_wp2;go_ret;exact recP rfl (Stair.pass HOK.out (Stair.pass HK.out (Stair.pass HQ.out (Stair.pass HN.out (Stair.fall (fun h => by have:=H5.out.2 h;simp at this)))))) HB5.out
        | true =>
          have HKP:Hid (KindP s ⟨4,seq,name,length,group,row,rows,data,delta⟩):=H5.out.1 (by simp)
          go_wp2_with fail
          refine (unnamed4 seq name length group row rows data delta ao6 ao7 ao8 cap6 cap7 cap8 _).mono ?_;rintro e w6 ⟨rfl,b6⟩;have HB6:Hid (Below w.heap.size w w6):=HB5.out.trans (b6.mono HB5.out.size);clear b6
          go_wp2_with fail
          refine (isBlank_any _ _ _ _ _ _ _ _ _ _ _ _ _ _ _ _).mono ?_;rintro e w7 ⟨t9,rfl,ht9,b7⟩;have HB7:Hid (Below w.heap.size w w7):=HB6.out.trans (b7.mono HB6.out.size);clear b7
          have HT9:Hid (t9 = true ↔ BlankP ⟨4,seq,name,length,group,row,rows,data,delta⟩):=by
            show t9 = true ↔ BlankP ⟨4,seq,name,length,group,row,rows,data,delta⟩
            rw [ht9];unfold BlankQ EmptyQ BlankP noName
            simp [and_assoc]
            try (intros;rfl)
          clear ht9
          cases t9 with
          | false =>
            go_wp2;go_ret;exact recP rfl (Stair.pass HOK.out (Stair.pass HK.out (Stair.pass HQ.out (Stair.pass HN.out (Stair.pass HKP.out (Stair.fall (fun h => by have:=HT9.out.2 h;simp at this))))))) HB7.out
          | true =>
            go_wp2;go_ret;exact recP rfl (Stair.pass HOK.out (Stair.pass HK.out (Stair.pass HQ.out (Stair.pass HN.out (Stair.pass HKP.out (Stair.pass (HT9.out.1 (by simp)) (Stair.last rfl))))))) HB7.out
    · go_wp2_with fail
      refine (inBounds_b (t:=false) (by omega) (exBF hq) _).mono ?_;rintro e w' ⟨rfl,hw'⟩;obtain rfl:=hw'.symm;go_wp2;go_ret;exact recP rfl (Stair.pass HOK.out (Stair.pass hk (Stair.fall hq))) HT1.out.bel
  · go_wp2_with fail
    refine (inBounds_b (t:=false) (by omega) (exBF hk) _).mono ?_;rintro e w' ⟨rfl,hw'⟩;obtain rfl:=hw'.symm;go_wp2;go_ret;exact recP rfl (Stair.pass HOK.out (Stair.fall hk)) HT1.out.bel
end Go.Proofs.YtbjblbbbafiepaaGreat
namespace Go.Proofs.YtbjblbbbafiepaaGreat
open Go.RowKit F256
set_option maxHeartbeats 8000000 in
theorem onFits_any (d:WorldD) (hs:OkShape d.shape) (cs:List Value) (hi:Nat) (w:World) (h:layWorld.rd w hi d cs) (hhi:hi ≤ w.heap.size) :
    Calls Tryz.prog 64 #[.agg cs.toArray] w (BoolP (OnP d) w):=by
  obtain ⟨ao1,cap1,ao2,cap2,ao3,cap3,rfl,g1,g2,g3,-⟩:=World_rd h;obtain ⟨v2,e2,⟨h2,hcp2⟩,_⟩:=g2
  cases e2
  have H2:Hid (RdI w hi (.slice ao2 d.on.1 cap2) d.on.1 d.on.2):=h2;have HCP:Hid (CapP (.slice ao2 d.on.1 cap2) d.on.1):=hcp2;have hm2:=h2.mx;unfold maxLen at hm2;have hb:=okB hs;have HS:Hid (OkShape d.shape):=hs;clear h h2 hcp2 g1 g3 hs;have T0:=one_new w #[.int .i64 (d.shape 0),.int .i64 (d.shape 1),.int .i64 (d.shape 2),.int .i64 (d.shape 3),.int .i64 (d.shape 4),.int .i64 (d.shape 5),.int .i64 (d.shape 6),.int .i64 (d.shape 7),.int .i64 (d.shape 8),.slice ao1 d.groups.1 cap1,.slice ao2 d.on.1 cap2,.slice ao3 d.tapes.1 cap3,.int .i64 d.writes,.int .i64 d.stop,.bool d.down] 37
  go_enter Tryz.func64,Tryz.ntmps64
  cases hd:d.down with
  | true =>
    obtain ⟨b0,h0⟩:∃ b,((d.on.1:Int) == 0) = b:=⟨_,rfl⟩
    have HE:Hid (OnP d ↔ b0 = true):=by
      show OnP d ↔ _
      rw [← h0];unfold OnP
      simp [hd]
      constructor
      · exact fun h => h.2.2
      · intro h
        refine ⟨fun i hi => by omega,by omega,h⟩
    have HB:Hid (Below w.heap.size w (w.alloc (.cells #[.int .i64 (d.shape 0),.int .i64 (d.shape 1),.int .i64 (d.shape 2),.int .i64 (d.shape 3),.int .i64 (d.shape 4),.int .i64 (d.shape 5),.int .i64 (d.shape 6),.int .i64 (d.shape 7),.int .i64 (d.shape 8),.slice ao1 d.groups.1 cap1,.slice ao2 d.on.1 cap2,.slice ao3 d.tapes.1 cap3,.int .i64 d.writes,.int .i64 d.stop,.bool true] 37))):=by
      have:=T0.bel;rw [hd] at this;exact this
    clear T0
    cases b0 with
    | true =>
      go_wp2;go_ret;exact boolYes (by simp [h0]) (HE.out.2 (by simp)) HB.out
    | false =>
      go_wp2;go_ret;exact boolNo (by simp [h0]) (fun h => by have:=HE.out.1 h;simp at this) HB.out
  | false =>
    have T1:=T0;rw [hd] at T1;clear T0
    go_upto_region 3 with fail
    obtain ⟨W,hW⟩:∃ W,W = w.alloc (.cells #[.int .i64 (d.shape 0),.int .i64 (d.shape 1),.int .i64 (d.shape 2),.int .i64 (d.shape 3),.int .i64 (d.shape 4),.int .i64 (d.shape 5),.int .i64 (d.shape 6),.int .i64 (d.shape 7),.int .i64 (d.shape 8),.slice ao1 d.groups.1 cap1,.slice ao2 d.on.1 cap2,.slice ao3 d.tapes.1 cap3,.int .i64 d.writes,.int .i64 d.stop,.bool false] 37):=⟨_,rfl⟩;rw [← hW] at T1 ⊢;have HT:Hid (One w W #[.int .i64 (d.shape 0),.int .i64 (d.shape 1),.int .i64 (d.shape 2),.int .i64 (d.shape 3),.int .i64 (d.shape 4),.int .i64 (d.shape 5),.int .i64 (d.shape 6),.int .i64 (d.shape 7),.int .i64 (d.shape 8),.slice ao1 d.groups.1 cap1,.slice ao2 d.on.1 cap2,.slice ao3 d.tapes.1 cap3,.int .i64 d.writes,.int .i64 d.stop,.bool false] 37):=T1;have x1_0:W.cell? ⟨w.heap.size,0,none⟩ = some (.int .i64 (d.shape 0)):=T1.b1.cell 0;have kx1_0:=cell_regrown x1_0;have x1_1:W.cell? ⟨w.heap.size,1,none⟩ = some (.int .i64 (d.shape 1)):=T1.b1.cell 1;have kx1_1:=cell_regrown x1_1;have x1_2:W.cell? ⟨w.heap.size,2,none⟩ = some (.int .i64 (d.shape 2)):=T1.b1.cell 2;have kx1_2:=cell_regrown x1_2;have x1_3:W.cell? ⟨w.heap.size,3,none⟩ = some (.int .i64 (d.shape 3)):=T1.b1.cell 3;have kx1_3:=cell_regrown x1_3;have x1_4:W.cell? ⟨w.heap.size,4,none⟩ = some (.int .i64 (d.shape 4)):=T1.b1.cell 4;have kx1_4:=cell_regrown x1_4;have x1_5:W.cell? ⟨w.heap.size,5,none⟩ = some (.int .i64 (d.shape 5)):=T1.b1.cell 5;have kx1_5:=cell_regrown x1_5;have x1_6:W.cell? ⟨w.heap.size,6,none⟩ = some (.int .i64 (d.shape 6)):=T1.b1.cell 6;have kx1_6:=cell_regrown x1_6;have x1_7:W.cell? ⟨w.heap.size,7,none⟩ = some (.int .i64 (d.shape 7)):=T1.b1.cell 7;have kx1_7:=cell_regrown x1_7;have x1_8:W.cell? ⟨w.heap.size,8,none⟩ = some (.int .i64 (d.shape 8)):=T1.b1.cell 8;have kx1_8:=cell_regrown x1_8;have x1_10:W.cell? ⟨w.heap.size,10,none⟩ = some (.slice ao2 d.on.1 cap2):=T1.b1.cell 10;have kx1_10:=cell_regrown x1_10;obtain ⟨b0,h0⟩:∃ b,decide ((d.on.1:Int) ≤ d.shape 5) = b:=⟨_,rfl⟩;obtain ⟨t2,h2⟩:=exB (ApartP d.on.1 d.on.2 (d.shape 0 + d.shape 1 - 1));have cG:=q_below (W:=W) (fun w' _ => groupCount_any d.shape HS.out w');have cD:=q_below (W:=W) (fun w' hw' => det_b (differWithin_any _ d.on.1 d.on.2 hi (d.shape 0 + d.shape 1) (by omega) (by omega) w' ((H2.out.below T1.bel hhi).below hw' (Nat.le_trans hhi T1.bel.size)) HCP.out (Nat.le_trans hhi (Nat.le_trans T1.bel.size hw'.size))) h2);unfold shapeV at cG
    have HE:Hid (OnP d ↔ (b0 = true ∧ t2 = true)):=by
      show OnP d ↔ _
      rw [← h0,h2];unfold OnP
      simp [hd]
      exact ⟨fun h => ⟨h.2,h.1⟩,fun h => ⟨h.2,h.1⟩⟩
    have hst:b0 = false ∨ (b0 = true ∧ t2 = false) ∨ (b0 = true ∧ t2 = true):=by
      clear HE h0 h2 cD
      cases b0 <;> simp
    clear h2 hW T1
    rcases hst with rfl | ⟨rfl,rfl⟩ | ⟨rfl,rfl⟩
    all_goals
      refine WQ.region (by kernel_rfl) (by kernel_rfl) ?_
      repeat (first | (apply WQ.skip;(case hw => rfl);intro K hK;go_simp;apply hK;clear hK K) | (apply WQ.want;(case hw => rfl);intro K hK;go_simp;first | (apply hK;clear hK K) | (apply Exists.intro;apply And.intro;(case left => intro p;(first | (go_at_call 34;exact cG _ _) | (go_at_call 99;exact cD _ _)));apply hK;clear hK K)))
      refine WQ.nil ?_;intro w2 hw2;have HB2:Hid (Below w.heap.size w w2):=(HT.out.call (below_rg hw2)).bel;clear hw2;go_wp2;go_ret
      first
        | exact boolNo rfl (fun h => by have:=HE.out.1 h;simp at this) HB2.out
        | exact boolYes rfl (HE.out.2 (by simp)) HB2.out
end Go.Proofs.YtbjblbbbafiepaaGreat
namespace Go.Proofs.YtbjblbbbafiepaaGreat
open Go.RowKit F256
set_option maxHeartbeats 8000000 in
set_option maxRecDepth 20000 in
theorem recsFault_any (d:WorldD) (cs:List Value) (hi:Nat) (w:World) (h:layWorld.rd w hi d cs) (hhi:hi ≤ w.heap.size) (hnm:∀ t,t < d.tapes.1 → ∀ i,i < (d.tapes.2 t).recs.1 → ((d.tapes.2 t).recs.2 i).name.size ≤ 1048576) :
    Calls Tryz.prog 67 #[.agg cs.toArray] w (RcsPost d.shape d.tapes w):=by
  obtain ⟨ao1,cap1,ao2,cap2,ao3,cap3,rfl,g1,g2,g3,-⟩:=World_rd h;obtain ⟨_,_,e3,hm3,hc3⟩:=g3
  cases e3
  unfold maxLen at hm3;have HC3:Hid (d.tapes.1 ≠ 0 → ∃ b off,ao3 = some ⟨b,off,none⟩ ∧ b < hi ∧ ∀ i,i < d.tapes.1 → ∃ ce,layTape.rd w hi (d.tapes.2 i) ce ∧ ∀ j,j < layTape.sz → w.cell? ⟨b,off + (i * layTape.sz + j),none⟩ = ce[j]?):=hc3;have HNM:Hid (∀ t,t < d.tapes.1 → ∀ i,i < (d.tapes.2 t).recs.1 → ((d.tapes.2 t).recs.2 i).name.size ≤ 1048576):=hnm;have HT0:Hid (One w (w.alloc (.cells #[.int .i64 (d.shape 0),.int .i64 (d.shape 1),.int .i64 (d.shape 2),.int .i64 (d.shape 3),.int .i64 (d.shape 4),.int .i64 (d.shape 5),.int .i64 (d.shape 6),.int .i64 (d.shape 7),.int .i64 (d.shape 8),.slice ao1 d.groups.1 cap1,.slice ao2 d.on.1 cap2,.slice ao3 d.tapes.1 cap3,.int .i64 d.writes,.int .i64 d.stop,.bool d.down] 37)) #[.int .i64 (d.shape 0),.int .i64 (d.shape 1),.int .i64 (d.shape 2),.int .i64 (d.shape 3),.int .i64 (d.shape 4),.int .i64 (d.shape 5),.int .i64 (d.shape 6),.int .i64 (d.shape 7),.int .i64 (d.shape 8),.slice ao1 d.groups.1 cap1,.slice ao2 d.on.1 cap2,.slice ao3 d.tapes.1 cap3,.int .i64 d.writes,.int .i64 d.stop,.bool d.down] 37):=one_new w #[.int .i64 (d.shape 0),.int .i64 (d.shape 1),.int .i64 (d.shape 2),.int .i64 (d.shape 3),.int .i64 (d.shape 4),.int .i64 (d.shape 5),.int .i64 (d.shape 6),.int .i64 (d.shape 7),.int .i64 (d.shape 8),.slice ao1 d.groups.1 cap1,.slice ao2 d.on.1 cap2,.slice ao3 d.tapes.1 cap3,.int .i64 d.writes,.int .i64 d.stop,.bool d.down] 37;clear h g1 g2 hc3 hnm
  go_enter Tryz.func67,Tryz.ntmps67
  go_wp2
  go_loopw [11] (fun v wr => ∃ t:Nat,t ≤ d.tapes.1 ∧ v = .int .i64 t ∧ (∀ u,u < t → ∀ k,k < (d.tapes.2 u).recs.1 → RecAns d.shape ((d.tapes.2 u).recs.2 k) 0) ∧ One w wr #[.int .i64 (d.shape 0),.int .i64 (d.shape 1),.int .i64 (d.shape 2),.int .i64 (d.shape 3),.int .i64 (d.shape 4),.int .i64 (d.shape 5),.int .i64 (d.shape 6),.int .i64 (d.shape 7),.int .i64 (d.shape 8),.slice ao1 d.groups.1 cap1,.slice ao2 d.on.1 cap2,.slice ao3 d.tapes.1 cap3,.int .i64 d.writes,.int .i64 d.stop,.bool d.down] 37) (fun v _ => d.tapes.1 - (intOf v).toNat)
  case atStart => exact ⟨0,Nat.zero_le _,rfl,fun i hi => by omega,HT0.out⟩
  case round =>
    clear HT0;obtain ⟨t,ht,rfl,hal,T1⟩:=hrel;obtain ⟨wo,rfl⟩:∃ x,x = wr:=⟨_,rfl⟩;have HAL:Hid (∀ u,u < t → ∀ k,k < (d.tapes.2 u).recs.1 → RecAns d.shape ((d.tapes.2 u).recs.2 k) 0):=hal;have HT1:Hid (One w wo #[.int .i64 (d.shape 0),.int .i64 (d.shape 1),.int .i64 (d.shape 2),.int .i64 (d.shape 3),.int .i64 (d.shape 4),.int .i64 (d.shape 5),.int .i64 (d.shape 6),.int .i64 (d.shape 7),.int .i64 (d.shape 8),.slice ao1 d.groups.1 cap1,.slice ao2 d.on.1 cap2,.slice ao3 d.tapes.1 cap3,.int .i64 d.writes,.int .i64 d.stop,.bool d.down] 37):=T1;clear hal
    by_cases hlt:t < d.tapes.1
    · obtain ⟨b3,off3,he3,hb3,hel3⟩:=HC3.out (by omega)
      subst he3;obtain ⟨ct,hrt,hct⟩:=elem_rd (t:=0) hel3 T1.bel hhi hb3 hlt;obtain ⟨ap,cp,rfl,gt⟩:=Tape_rd hrt;have c0:wo.cell? ⟨b3,off3 + t * 2,none⟩ = some (.bool (d.tapes.2 t).wiped):=hct 0 (by decide);have c1:wo.cell? ⟨b3,off3 + t * 2 + 1,none⟩ = some (.slice ap (d.tapes.2 t).recs.1 cp):=hct 1 (by decide);obtain ⟨_,_,et,hmt,hct'⟩:=gt
      cases et
      unfold maxLen at hmt;have HCT:Hid ((d.tapes.2 t).recs.1 ≠ 0 → ∃ b off,ap = some ⟨b,off,none⟩ ∧ b < hi ∧ ∀ i,i < (d.tapes.2 t).recs.1 → ∃ ce,layRec.rd wo hi ((d.tapes.2 t).recs.2 i) ce ∧ ∀ j,j < layRec.sz → wo.cell? ⟨b,off + (i * layRec.sz + j),none⟩ = ce[j]?):=hct';have zo:w.heap.size < wo.heap.size:=T1.b1.lt;clear hel3 hct hrt hct' T1
      go_upto_region 4 with fail
      have bA:Below wo.heap.size wo (wo.alloc (.cells #[.bool (d.tapes.2 t).wiped,.slice ap (d.tapes.2 t).recs.1 cp] 90)):=(Below.refl _ _).alloc (Nat.le_refl _) _;have X2:Box (wo.alloc (.cells #[.bool (d.tapes.2 t).wiped,.slice ap (d.tapes.2 t).recs.1 cp] 90)) wo.heap.size #[.bool (d.tapes.2 t).wiped,.slice ap (d.tapes.2 t).recs.1 cp] 90:=box_new _ _ _;obtain ⟨W2,hW2⟩:∃ x,x = wo.alloc (.cells #[.bool (d.tapes.2 t).wiped,.slice ap (d.tapes.2 t).recs.1 cp] 90):=⟨_,rfl⟩;rw [← hW2] at bA X2 ⊢;have y2_1:W2.cell? ⟨wo.heap.size,1,none⟩ = some (.slice ap (d.tapes.2 t).recs.1 cp):=X2.cell 1;have HB2:Hid (Below wo.heap.size wo W2):=bA;clear c0 c1 X2 bA hW2;go_wp2
      go_loopw [18] (fun v wx => ∃ i:Nat,i ≤ (d.tapes.2 t).recs.1 ∧ v = .int .i64 i ∧ (∀ k,k < i → RecAns d.shape ((d.tapes.2 t).recs.2 k) 0) ∧ Below wo.heap.size wo wx) (fun v _ => (d.tapes.2 t).recs.1 - (intOf v).toNat)
      case atStart => exact ⟨0,Nat.zero_le _,rfl,fun i hi => by omega,HB2.out⟩
      case round =>
        clear HB2 y2_1;obtain ⟨i,hi',rfl,hal2,hb4⟩:=hrel;obtain ⟨wx,rfl⟩:∃ x,x = wr:=⟨_,rfl⟩;have HAL2:Hid (∀ k,k < i → RecAns d.shape ((d.tapes.2 t).recs.2 k) 0):=hal2;have HB4:Hid (Below wo.heap.size wo wx):=hb4;clear hal2
        by_cases hli:i < (d.tapes.2 t).recs.1
        · obtain ⟨b6,off6,he6,hb6,hel6⟩:=HCT.out (by omega)
          subst he6;obtain ⟨cr,hrr,hcr⟩:=elem_rd (t:=0) hel6 hb4 (by omega) hb6 hli;obtain ⟨ro6,rc6,ro7,rc7,ro8,rc8,rfl,-⟩:=Rec_rd hrr;have r0:wx.cell? ⟨b6,off6 + i * 9,none⟩ = some (.int .i64 ((d.tapes.2 t).recs.2 i).kind):=hcr 0 (by decide);have r1:wx.cell? ⟨b6,off6 + i * 9 + 1,none⟩ = some (.int .i64 ((d.tapes.2 t).recs.2 i).seq):=hcr 1 (by decide);have r2:wx.cell? ⟨b6,off6 + i * 9 + 2,none⟩ = some (.string ((d.tapes.2 t).recs.2 i).name):=hcr 2 (by decide);have r3:wx.cell? ⟨b6,off6 + i * 9 + 3,none⟩ = some (.int .i64 ((d.tapes.2 t).recs.2 i).length):=hcr 3 (by decide);have r4:wx.cell? ⟨b6,off6 + i * 9 + 4,none⟩ = some (.int .i64 ((d.tapes.2 t).recs.2 i).group):=hcr 4 (by decide);have r5:wx.cell? ⟨b6,off6 + i * 9 + 5,none⟩ = some (.int .i64 ((d.tapes.2 t).recs.2 i).row):=hcr 5 (by decide);have r6:wx.cell? ⟨b6,off6 + i * 9 + 6,none⟩ = some (.slice ro6 ((d.tapes.2 t).recs.2 i).rows.1 rc6):=hcr 6 (by decide);have r7:wx.cell? ⟨b6,off6 + i * 9 + 7,none⟩ = some (.slice ro7 ((d.tapes.2 t).recs.2 i).data.1 rc7):=hcr 7 (by decide);have r8:wx.cell? ⟨b6,off6 + i * 9 + 8,none⟩ = some (.slice ro8 ((d.tapes.2 t).recs.2 i).delta.1 rc8):=hcr 8 (by decide);have HRR:Hid (layRec.rd wx hi ((d.tapes.2 t).recs.2 i) [.int .i64 ((d.tapes.2 t).recs.2 i).kind,.int .i64 ((d.tapes.2 t).recs.2 i).seq,.string ((d.tapes.2 t).recs.2 i).name,.int .i64 ((d.tapes.2 t).recs.2 i).length,.int .i64 ((d.tapes.2 t).recs.2 i).group,.int .i64 ((d.tapes.2 t).recs.2 i).row,.slice ro6 ((d.tapes.2 t).recs.2 i).rows.1 rc6,.slice ro7 ((d.tapes.2 t).recs.2 i).data.1 rc7,.slice ro8 ((d.tapes.2 t).recs.2 i).delta.1 rc8]):=hrr;have T4:One w wx #[.int .i64 (d.shape 0),.int .i64 (d.shape 1),.int .i64 (d.shape 2),.int .i64 (d.shape 3),.int .i64 (d.shape 4),.int .i64 (d.shape 5),.int .i64 (d.shape 6),.int .i64 (d.shape 7),.int .i64 (d.shape 8),.slice ao1 d.groups.1 cap1,.slice ao2 d.on.1 cap2,.slice (some ⟨b3,off3,none⟩) d.tapes.1 cap3,.int .i64 d.writes,.int .i64 d.stop,.bool d.down] 37:=HT1.out.call hb4;have HT4:Hid (One w wx #[.int .i64 (d.shape 0),.int .i64 (d.shape 1),.int .i64 (d.shape 2),.int .i64 (d.shape 3),.int .i64 (d.shape 4),.int .i64 (d.shape 5),.int .i64 (d.shape 6),.int .i64 (d.shape 7),.int .i64 (d.shape 8),.slice ao1 d.groups.1 cap1,.slice ao2 d.on.1 cap2,.slice (some ⟨b3,off3,none⟩) d.tapes.1 cap3,.int .i64 d.writes,.int .i64 d.stop,.bool d.down] 37):=T4;have zx:wo.heap.size ≤ wx.heap.size:=hb4.size;obtain ⟨X,hX⟩:∃ X,RecAns d.shape ((d.tapes.2 t).recs.2 i) X:=stair_ex (K:=isZ) ⟨0,rfl⟩ _;have HX:Hid (RecAns d.shape ((d.tapes.2 t).recs.2 i) X):=hX;clear hel6 hcr hrr T4 hb4 hX
          go_upto_region 7 with fail
          have bA:Below wx.heap.size wx (wx.alloc (.cells #[.int .i64 ((d.tapes.2 t).recs.2 i).kind,.int .i64 ((d.tapes.2 t).recs.2 i).seq,.string ((d.tapes.2 t).recs.2 i).name,.int .i64 ((d.tapes.2 t).recs.2 i).length,.int .i64 ((d.tapes.2 t).recs.2 i).group,.int .i64 ((d.tapes.2 t).recs.2 i).row,.slice ro6 ((d.tapes.2 t).recs.2 i).rows.1 rc6,.slice ro7 ((d.tapes.2 t).recs.2 i).data.1 rc7,.slice ro8 ((d.tapes.2 t).recs.2 i).delta.1 rc8] 93)):=(Below.refl _ _).alloc (Nat.le_refl _) _;have X5:Box (wx.alloc (.cells #[.int .i64 ((d.tapes.2 t).recs.2 i).kind,.int .i64 ((d.tapes.2 t).recs.2 i).seq,.string ((d.tapes.2 t).recs.2 i).name,.int .i64 ((d.tapes.2 t).recs.2 i).length,.int .i64 ((d.tapes.2 t).recs.2 i).group,.int .i64 ((d.tapes.2 t).recs.2 i).row,.slice ro6 ((d.tapes.2 t).recs.2 i).rows.1 rc6,.slice ro7 ((d.tapes.2 t).recs.2 i).data.1 rc7,.slice ro8 ((d.tapes.2 t).recs.2 i).delta.1 rc8] 93)) wx.heap.size #[.int .i64 ((d.tapes.2 t).recs.2 i).kind,.int .i64 ((d.tapes.2 t).recs.2 i).seq,.string ((d.tapes.2 t).recs.2 i).name,.int .i64 ((d.tapes.2 t).recs.2 i).length,.int .i64 ((d.tapes.2 t).recs.2 i).group,.int .i64 ((d.tapes.2 t).recs.2 i).row,.slice ro6 ((d.tapes.2 t).recs.2 i).rows.1 rc6,.slice ro7 ((d.tapes.2 t).recs.2 i).data.1 rc7,.slice ro8 ((d.tapes.2 t).recs.2 i).delta.1 rc8] 93:=box_new _ _ _;obtain ⟨W5,hW5⟩:∃ x,x = wx.alloc (.cells #[.int .i64 ((d.tapes.2 t).recs.2 i).kind,.int .i64 ((d.tapes.2 t).recs.2 i).seq,.string ((d.tapes.2 t).recs.2 i).name,.int .i64 ((d.tapes.2 t).recs.2 i).length,.int .i64 ((d.tapes.2 t).recs.2 i).group,.int .i64 ((d.tapes.2 t).recs.2 i).row,.slice ro6 ((d.tapes.2 t).recs.2 i).rows.1 rc6,.slice ro7 ((d.tapes.2 t).recs.2 i).data.1 rc7,.slice ro8 ((d.tapes.2 t).recs.2 i).delta.1 rc8] 93):=⟨_,rfl⟩;rw [← hW5] at bA X5 ⊢;have T5:One w W5 #[.int .i64 (d.shape 0),.int .i64 (d.shape 1),.int .i64 (d.shape 2),.int .i64 (d.shape 3),.int .i64 (d.shape 4),.int .i64 (d.shape 5),.int .i64 (d.shape 6),.int .i64 (d.shape 7),.int .i64 (d.shape 8),.slice ao1 d.groups.1 cap1,.slice ao2 d.on.1 cap2,.slice (some ⟨b3,off3,none⟩) d.tapes.1 cap3,.int .i64 d.writes,.int .i64 d.stop,.bool d.down] 37:=HT4.out.call bA;have y5_0:W5.cell? ⟨wx.heap.size,0,none⟩ = some (.int .i64 ((d.tapes.2 t).recs.2 i).kind):=X5.cell 0;have y5_1:W5.cell? ⟨wx.heap.size,1,none⟩ = some (.int .i64 ((d.tapes.2 t).recs.2 i).seq):=X5.cell 1;have y5_2:W5.cell? ⟨wx.heap.size,2,none⟩ = some (.string ((d.tapes.2 t).recs.2 i).name):=X5.cell 2;have y5_3:W5.cell? ⟨wx.heap.size,3,none⟩ = some (.int .i64 ((d.tapes.2 t).recs.2 i).length):=X5.cell 3;have y5_4:W5.cell? ⟨wx.heap.size,4,none⟩ = some (.int .i64 ((d.tapes.2 t).recs.2 i).group):=X5.cell 4;have y5_5:W5.cell? ⟨wx.heap.size,5,none⟩ = some (.int .i64 ((d.tapes.2 t).recs.2 i).row):=X5.cell 5;have y5_6:W5.cell? ⟨wx.heap.size,6,none⟩ = some (.slice ro6 ((d.tapes.2 t).recs.2 i).rows.1 rc6):=X5.cell 6;have y5_7:W5.cell? ⟨wx.heap.size,7,none⟩ = some (.slice ro7 ((d.tapes.2 t).recs.2 i).data.1 rc7):=X5.cell 7
          have y5_8:W5.cell? ⟨wx.heap.size,8,none⟩ = some (.slice ro8 ((d.tapes.2 t).recs.2 i).delta.1 rc8):=X5.cell 8;have x5_0:W5.cell? ⟨w.heap.size,0,none⟩ = some (.int .i64 (d.shape 0)):=T5.b1.cell 0;have x5_1:W5.cell? ⟨w.heap.size,1,none⟩ = some (.int .i64 (d.shape 1)):=T5.b1.cell 1;have x5_2:W5.cell? ⟨w.heap.size,2,none⟩ = some (.int .i64 (d.shape 2)):=T5.b1.cell 2;have x5_3:W5.cell? ⟨w.heap.size,3,none⟩ = some (.int .i64 (d.shape 3)):=T5.b1.cell 3;have x5_4:W5.cell? ⟨w.heap.size,4,none⟩ = some (.int .i64 (d.shape 4)):=T5.b1.cell 4;have x5_5:W5.cell? ⟨w.heap.size,5,none⟩ = some (.int .i64 (d.shape 5)):=T5.b1.cell 5;have x5_6:W5.cell? ⟨w.heap.size,6,none⟩ = some (.int .i64 (d.shape 6)):=T5.b1.cell 6;have x5_7:W5.cell? ⟨w.heap.size,7,none⟩ = some (.int .i64 (d.shape 7)):=T5.b1.cell 7;have x5_8:W5.cell? ⟨w.heap.size,8,none⟩ = some (.int .i64 (d.shape 8)):=T5.b1.cell 8;have CR:=rec_det HX.out (implRec_any d.shape ((d.tapes.2 t).recs.2 i) _ hi W5 (layRec.rd_below HRR.out bA (by omega)) (by have:=bA.size;omega) (HNM.out t hlt i hli));unfold shapeV at CR;have HB5:Hid (Below wx.heap.size wx W5):=bA;clear r0 r1 r2 r3 r4 r5 r6 r7 r8 bA X5 T5 hW5
          go_wp2_with fail
          refine CR.mono ?_;rintro e w6 ⟨rfl,b6'⟩;have HB6:Hid (Below wo.heap.size wo w6):=HB4.out.trans ((HB5.out.trans (b6'.mono HB5.out.size)).mono HB4.out.size);clear b6' CR y5_0 x5_0 y5_1 x5_1 y5_2 x5_2 y5_3 x5_3 y5_4 x5_4 y5_5 x5_5 y5_6 x5_6 y5_7 x5_7 y5_8 x5_8
          by_cases hx0:X = 0
          · subst hx0
            go_wp2
            go_roundw
            case rel => exact ⟨i + 1,by omega,by go_num,fun k hk => by
                          by_cases c:k = i
                          · subst c;exact HX.out
                          · exact HAL2.out k (by omega),HB6.out⟩
            case measure => simp [intOf];omega
          · have hne:(X != 0) = true:=by simp [hx0]
            go_wp2;go_ret;exact ⟨X,rfl,.inr ⟨hx0,t,i,hlt,hli,HX.out,HAL2.out,HAL.out⟩,(HT1.out.call HB6.out).bel⟩
        · obtain rfl:i = (d.tapes.2 t).recs.1:=by omega
          clear hb4;go_wp2
          go_roundw
          case rel => exact ⟨t + 1,by omega,by go_num,fun u hu => by
                        by_cases c:u = t
                        · subst c;exact HAL2.out
                        · exact HAL.out u (by omega),HT1.out.call HB4.out⟩
          case measure => simp [intOf];omega
    · obtain rfl:t = d.tapes.1:=by omega
      go_wp2;go_ret;exact ⟨0,rfl,.inl ⟨rfl,HAL.out⟩,HT1.out.bel⟩
end Go.Proofs.YtbjblbbbafiepaaGreat
namespace Go.Proofs.YtbjblbbbafiepaaGreat
open Go.RowKit F256
set_option maxHeartbeats 16000000 in
set_option maxRecDepth 20000 in
theorem implWorld_any (d:WorldD) (cs:List Value) (hi:Nat) (w:World) (h:layWorld.rd w hi d cs) (hhi:hi ≤ w.heap.size) (hnm:∀ t,t < d.tapes.1 → ∀ i,i < (d.tapes.2 t).recs.1 → ((d.tapes.2 t).recs.2 i).name.size ≤ 1048576) :
    Calls Tryz.prog 33 #[.agg cs.toArray] w (WldPost d w):=by
  obtain ⟨ao1,cap1,ao2,cap2,ao3,cap3,rfl,g1,g2,g3,-⟩:=World_rd h;have HRD:Hid (layWorld.rd w hi d [.int .i64 (d.shape 0),.int .i64 (d.shape 1),.int .i64 (d.shape 2),.int .i64 (d.shape 3),.int .i64 (d.shape 4),.int .i64 (d.shape 5),.int .i64 (d.shape 6),.int .i64 (d.shape 7),.int .i64 (d.shape 8),.slice ao1 d.groups.1 cap1,.slice ao2 d.on.1 cap2,.slice ao3 d.tapes.1 cap3,.int .i64 d.writes,.int .i64 d.stop,.bool d.down]):=h;have HG1:Hid (((layDrive.slice 98).slice 95).rd w hi d.groups [.slice ao1 d.groups.1 cap1]):=g1;have HG3:Hid ((layTape.slice 90).rd w hi d.tapes [.slice ao3 d.tapes.1 cap3]):=g3
  have hm3:d.tapes.1 ≤ maxLen:=by obtain ⟨_,_,_,h,_⟩:=g3;exact h
  unfold maxLen at hm3;have HNM:Hid (∀ t,t < d.tapes.1 → ∀ i,i < (d.tapes.2 t).recs.1 → ((d.tapes.2 t).recs.2 i).name.size ≤ 1048576):=hnm;clear h g1 g2 g3 hnm;have T0:=one_new w #[.int .i64 (d.shape 0),.int .i64 (d.shape 1),.int .i64 (d.shape 2),.int .i64 (d.shape 3),.int .i64 (d.shape 4),.int .i64 (d.shape 5),.int .i64 (d.shape 6),.int .i64 (d.shape 7),.int .i64 (d.shape 8),.slice ao1 d.groups.1 cap1,.slice ao2 d.on.1 cap2,.slice ao3 d.tapes.1 cap3,.int .i64 d.writes,.int .i64 d.stop,.bool d.down] 37;have CSh:=fun w' => implShape_any d.shape w';unfold shapeV at CSh
  go_enter Tryz.func33,Tryz.ntmps33
  go_wp2_with fail
  refine (CSh _).mono ?_;rintro e w1 ⟨x,rfl,hx,b1⟩;have T1:One w w1 #[.int .i64 (d.shape 0),.int .i64 (d.shape 1),.int .i64 (d.shape 2),.int .i64 (d.shape 3),.int .i64 (d.shape 4),.int .i64 (d.shape 5),.int .i64 (d.shape 6),.int .i64 (d.shape 7),.int .i64 (d.shape 8),.slice ao1 d.groups.1 cap1,.slice ao2 d.on.1 cap2,.slice ao3 d.tapes.1 cap3,.int .i64 d.writes,.int .i64 d.stop,.bool d.down] 37:=T0.call b1;have HT1:Hid (One w w1 #[.int .i64 (d.shape 0),.int .i64 (d.shape 1),.int .i64 (d.shape 2),.int .i64 (d.shape 3),.int .i64 (d.shape 4),.int .i64 (d.shape 5),.int .i64 (d.shape 6),.int .i64 (d.shape 7),.int .i64 (d.shape 8),.slice ao1 d.groups.1 cap1,.slice ao2 d.on.1 cap2,.slice ao3 d.tapes.1 cap3,.int .i64 d.writes,.int .i64 d.stop,.bool d.down] 37):=T1;clear b1 T0 CSh;have x1_0:w1.cell? ⟨w.heap.size,0,none⟩ = some (.int .i64 (d.shape 0)):=T1.b1.cell 0;have x1_1:w1.cell? ⟨w.heap.size,1,none⟩ = some (.int .i64 (d.shape 1)):=T1.b1.cell 1;have x1_2:w1.cell? ⟨w.heap.size,2,none⟩ = some (.int .i64 (d.shape 2)):=T1.b1.cell 2;have x1_3:w1.cell? ⟨w.heap.size,3,none⟩ = some (.int .i64 (d.shape 3)):=T1.b1.cell 3;have x1_4:w1.cell? ⟨w.heap.size,4,none⟩ = some (.int .i64 (d.shape 4)):=T1.b1.cell 4;have x1_5:w1.cell? ⟨w.heap.size,5,none⟩ = some (.int .i64 (d.shape 5)):=T1.b1.cell 5;have x1_6:w1.cell? ⟨w.heap.size,6,none⟩ = some (.int .i64 (d.shape 6)):=T1.b1.cell 6;have x1_7:w1.cell? ⟨w.heap.size,7,none⟩ = some (.int .i64 (d.shape 7)):=T1.b1.cell 7;have x1_8:w1.cell? ⟨w.heap.size,8,none⟩ = some (.int .i64 (d.shape 8)):=T1.b1.cell 8;have x1_9:w1.cell? ⟨w.heap.size,9,none⟩ = some (.slice ao1 d.groups.1 cap1):=T1.b1.cell 9;have x1_10:w1.cell? ⟨w.heap.size,10,none⟩ = some (.slice ao2 d.on.1 cap2):=T1.b1.cell 10;have x1_11:w1.cell? ⟨w.heap.size,11,none⟩ = some (.slice ao3 d.tapes.1 cap3):=T1.b1.cell 11;have x1_12:w1.cell? ⟨w.heap.size,12,none⟩ = some (.int .i64 d.writes):=T1.b1.cell 12;have x1_13:w1.cell? ⟨w.heap.size,13,none⟩ = some (.int .i64 d.stop):=T1.b1.cell 13;have x1_14:w1.cell? ⟨w.heap.size,14,none⟩ = some (.bool d.down):=T1.b1.cell 14;clear T1
  rcases hx with ⟨rfl,hno⟩ | ⟨rfl,hok⟩
  · go_wp2
    go_ret;exact wldP rfl (Stair.fall hno) HT1.out.bel
  have HOK:Hid (OkShape d.shape):=hok;clear hok;obtain ⟨t1,h1⟩:=exB (BuiltP d);have C1:=det_b (groupsFit_any d.shape HOK.out d.groups _ hi w1 (((layDrive.slice 98).slice 95).rd_below HG1.out HT1.out.bel hhi) (Nat.le_trans hhi HT1.out.bel.size)) (show t1 = true ↔ GroupsP d.shape d.groups from h1);unfold shapeV at C1;have H1:Hid (t1 = true ↔ BuiltP d):=h1;clear h1
  go_wp2_with fail
  refine C1.mono ?_;rintro e w2 ⟨rfl,b2⟩;have T2:One w w2 #[.int .i64 (d.shape 0),.int .i64 (d.shape 1),.int .i64 (d.shape 2),.int .i64 (d.shape 3),.int .i64 (d.shape 4),.int .i64 (d.shape 5),.int .i64 (d.shape 6),.int .i64 (d.shape 7),.int .i64 (d.shape 8),.slice ao1 d.groups.1 cap1,.slice ao2 d.on.1 cap2,.slice ao3 d.tapes.1 cap3,.int .i64 d.writes,.int .i64 d.stop,.bool d.down] 37:=HT1.out.call b2;have HT2:Hid (One w w2 #[.int .i64 (d.shape 0),.int .i64 (d.shape 1),.int .i64 (d.shape 2),.int .i64 (d.shape 3),.int .i64 (d.shape 4),.int .i64 (d.shape 5),.int .i64 (d.shape 6),.int .i64 (d.shape 7),.int .i64 (d.shape 8),.slice ao1 d.groups.1 cap1,.slice ao2 d.on.1 cap2,.slice ao3 d.tapes.1 cap3,.int .i64 d.writes,.int .i64 d.stop,.bool d.down] 37):=T2;clear b2 x1_0 x1_1 x1_2 x1_3 x1_4 x1_5 x1_6 x1_7 x1_8 x1_9 x1_10 x1_11 x1_12 x1_13 x1_14;have x2_0:w2.cell? ⟨w.heap.size,0,none⟩ = some (.int .i64 (d.shape 0)):=T2.b1.cell 0;have x2_1:w2.cell? ⟨w.heap.size,1,none⟩ = some (.int .i64 (d.shape 1)):=T2.b1.cell 1;have x2_2:w2.cell? ⟨w.heap.size,2,none⟩ = some (.int .i64 (d.shape 2)):=T2.b1.cell 2;have x2_3:w2.cell? ⟨w.heap.size,3,none⟩ = some (.int .i64 (d.shape 3)):=T2.b1.cell 3;have x2_4:w2.cell? ⟨w.heap.size,4,none⟩ = some (.int .i64 (d.shape 4)):=T2.b1.cell 4;have x2_5:w2.cell? ⟨w.heap.size,5,none⟩ = some (.int .i64 (d.shape 5)):=T2.b1.cell 5;have x2_6:w2.cell? ⟨w.heap.size,6,none⟩ = some (.int .i64 (d.shape 6)):=T2.b1.cell 6;have x2_7:w2.cell? ⟨w.heap.size,7,none⟩ = some (.int .i64 (d.shape 7)):=T2.b1.cell 7;have x2_8:w2.cell? ⟨w.heap.size,8,none⟩ = some (.int .i64 (d.shape 8)):=T2.b1.cell 8;have x2_9:w2.cell? ⟨w.heap.size,9,none⟩ = some (.slice ao1 d.groups.1 cap1):=T2.b1.cell 9;have x2_10:w2.cell? ⟨w.heap.size,10,none⟩ = some (.slice ao2 d.on.1 cap2):=T2.b1.cell 10;have x2_11:w2.cell? ⟨w.heap.size,11,none⟩ = some (.slice ao3 d.tapes.1 cap3):=T2.b1.cell 11;have x2_12:w2.cell? ⟨w.heap.size,12,none⟩ = some (.int .i64 d.writes):=T2.b1.cell 12;have x2_13:w2.cell? ⟨w.heap.size,13,none⟩ = some (.int .i64 d.stop):=T2.b1.cell 13;have x2_14:w2.cell? ⟨w.heap.size,14,none⟩ = some (.bool d.down):=T2.b1.cell 14;clear T2;clear C1
  cases t1 with
  | false =>
    go_wp2;go_ret;exact wldP rfl (Stair.pass HOK.out (Stair.fall (fun h => by have:=H1.out.2 h.1;simp at this))) HT2.out.bel
  | true =>
  have HB:Hid (BuiltP d):=H1.out.1 rfl;clear H1;obtain ⟨t2,h2⟩:=exB (OnP d);have C2:=det_b (onFits_any d HOK.out _ hi w2 (layWorld.rd_below HRD.out HT2.out.bel hhi) (Nat.le_trans hhi HT2.out.bel.size)) h2;have H2:Hid (t2 = true ↔ OnP d):=h2;clear h2
  go_wp2_with fail
  refine C2.mono ?_;rintro e w3 ⟨rfl,b3⟩;have T3:One w w3 #[.int .i64 (d.shape 0),.int .i64 (d.shape 1),.int .i64 (d.shape 2),.int .i64 (d.shape 3),.int .i64 (d.shape 4),.int .i64 (d.shape 5),.int .i64 (d.shape 6),.int .i64 (d.shape 7),.int .i64 (d.shape 8),.slice ao1 d.groups.1 cap1,.slice ao2 d.on.1 cap2,.slice ao3 d.tapes.1 cap3,.int .i64 d.writes,.int .i64 d.stop,.bool d.down] 37:=HT2.out.call b3;have HT3:Hid (One w w3 #[.int .i64 (d.shape 0),.int .i64 (d.shape 1),.int .i64 (d.shape 2),.int .i64 (d.shape 3),.int .i64 (d.shape 4),.int .i64 (d.shape 5),.int .i64 (d.shape 6),.int .i64 (d.shape 7),.int .i64 (d.shape 8),.slice ao1 d.groups.1 cap1,.slice ao2 d.on.1 cap2,.slice ao3 d.tapes.1 cap3,.int .i64 d.writes,.int .i64 d.stop,.bool d.down] 37):=T3;clear b3 x2_0 x2_1 x2_2 x2_3 x2_4 x2_5 x2_6 x2_7 x2_8 x2_9 x2_10 x2_11 x2_12 x2_13 x2_14;have x3_0:w3.cell? ⟨w.heap.size,0,none⟩ = some (.int .i64 (d.shape 0)):=T3.b1.cell 0;have x3_1:w3.cell? ⟨w.heap.size,1,none⟩ = some (.int .i64 (d.shape 1)):=T3.b1.cell 1;have x3_2:w3.cell? ⟨w.heap.size,2,none⟩ = some (.int .i64 (d.shape 2)):=T3.b1.cell 2;have x3_3:w3.cell? ⟨w.heap.size,3,none⟩ = some (.int .i64 (d.shape 3)):=T3.b1.cell 3;have x3_4:w3.cell? ⟨w.heap.size,4,none⟩ = some (.int .i64 (d.shape 4)):=T3.b1.cell 4;have x3_5:w3.cell? ⟨w.heap.size,5,none⟩ = some (.int .i64 (d.shape 5)):=T3.b1.cell 5;have x3_6:w3.cell? ⟨w.heap.size,6,none⟩ = some (.int .i64 (d.shape 6)):=T3.b1.cell 6;have x3_7:w3.cell? ⟨w.heap.size,7,none⟩ = some (.int .i64 (d.shape 7)):=T3.b1.cell 7;have x3_8:w3.cell? ⟨w.heap.size,8,none⟩ = some (.int .i64 (d.shape 8)):=T3.b1.cell 8;have x3_9:w3.cell? ⟨w.heap.size,9,none⟩ = some (.slice ao1 d.groups.1 cap1):=T3.b1.cell 9;have x3_10:w3.cell? ⟨w.heap.size,10,none⟩ = some (.slice ao2 d.on.1 cap2):=T3.b1.cell 10;have x3_11:w3.cell? ⟨w.heap.size,11,none⟩ = some (.slice ao3 d.tapes.1 cap3):=T3.b1.cell 11;have x3_12:w3.cell? ⟨w.heap.size,12,none⟩ = some (.int .i64 d.writes):=T3.b1.cell 12;have x3_13:w3.cell? ⟨w.heap.size,13,none⟩ = some (.int .i64 d.stop):=T3.b1.cell 13;have x3_14:w3.cell? ⟨w.heap.size,14,none⟩ = some (.bool d.down):=T3.b1.cell 14;clear T3;clear C2
  cases t2 with
  | false =>
    go_wp2;go_ret;exact wldP rfl (Stair.pass HOK.out (Stair.fall (fun h => by have:=H2.out.2 h.2.1;simp at this))) HT3.out.bel
  | true =>
  have HO:Hid (OnP d):=H2.out.1 rfl;clear H2
  by_cases h5:d.tapes.1 = 2
  · have n5:((d.tapes.1:Int) != 2) = false:=by simp;omega
    have HFM:Hid (FormP d):=⟨HB.out,HO.out,h5⟩;clear h5;obtain ⟨t4,h4⟩:=exB (Any_overfull d.tapes);have C4:=det_b (contains_overfull d.tapes _ _ hi w3 ((layTape.slice 90).rd_below HG3.out HT3.out.bel hhi) (Nat.le_trans hhi HT3.out.bel.size)) h4;have H4:Hid (t4 = true ↔ Any_overfull d.tapes):=h4;clear h4
    go_wp2_with fail
    refine C4.mono ?_;rintro e w4 ⟨rfl,b4⟩;have T4:One w w4 #[.int .i64 (d.shape 0),.int .i64 (d.shape 1),.int .i64 (d.shape 2),.int .i64 (d.shape 3),.int .i64 (d.shape 4),.int .i64 (d.shape 5),.int .i64 (d.shape 6),.int .i64 (d.shape 7),.int .i64 (d.shape 8),.slice ao1 d.groups.1 cap1,.slice ao2 d.on.1 cap2,.slice ao3 d.tapes.1 cap3,.int .i64 d.writes,.int .i64 d.stop,.bool d.down] 37:=HT3.out.call b4;have HT4:Hid (One w w4 #[.int .i64 (d.shape 0),.int .i64 (d.shape 1),.int .i64 (d.shape 2),.int .i64 (d.shape 3),.int .i64 (d.shape 4),.int .i64 (d.shape 5),.int .i64 (d.shape 6),.int .i64 (d.shape 7),.int .i64 (d.shape 8),.slice ao1 d.groups.1 cap1,.slice ao2 d.on.1 cap2,.slice ao3 d.tapes.1 cap3,.int .i64 d.writes,.int .i64 d.stop,.bool d.down] 37):=T4;clear b4 x3_0 x3_1 x3_2 x3_3 x3_4 x3_5 x3_6 x3_7 x3_8 x3_9 x3_10 x3_11 x3_12 x3_13 x3_14;have x4_0:w4.cell? ⟨w.heap.size,0,none⟩ = some (.int .i64 (d.shape 0)):=T4.b1.cell 0;have x4_1:w4.cell? ⟨w.heap.size,1,none⟩ = some (.int .i64 (d.shape 1)):=T4.b1.cell 1;have x4_2:w4.cell? ⟨w.heap.size,2,none⟩ = some (.int .i64 (d.shape 2)):=T4.b1.cell 2;have x4_3:w4.cell? ⟨w.heap.size,3,none⟩ = some (.int .i64 (d.shape 3)):=T4.b1.cell 3;have x4_4:w4.cell? ⟨w.heap.size,4,none⟩ = some (.int .i64 (d.shape 4)):=T4.b1.cell 4;have x4_5:w4.cell? ⟨w.heap.size,5,none⟩ = some (.int .i64 (d.shape 5)):=T4.b1.cell 5;have x4_6:w4.cell? ⟨w.heap.size,6,none⟩ = some (.int .i64 (d.shape 6)):=T4.b1.cell 6;have x4_7:w4.cell? ⟨w.heap.size,7,none⟩ = some (.int .i64 (d.shape 7)):=T4.b1.cell 7;have x4_8:w4.cell? ⟨w.heap.size,8,none⟩ = some (.int .i64 (d.shape 8)):=T4.b1.cell 8;have x4_9:w4.cell? ⟨w.heap.size,9,none⟩ = some (.slice ao1 d.groups.1 cap1):=T4.b1.cell 9;have x4_10:w4.cell? ⟨w.heap.size,10,none⟩ = some (.slice ao2 d.on.1 cap2):=T4.b1.cell 10;have x4_11:w4.cell? ⟨w.heap.size,11,none⟩ = some (.slice ao3 d.tapes.1 cap3):=T4.b1.cell 11;have x4_12:w4.cell? ⟨w.heap.size,12,none⟩ = some (.int .i64 d.writes):=T4.b1.cell 12;have x4_13:w4.cell? ⟨w.heap.size,13,none⟩ = some (.int .i64 d.stop):=T4.b1.cell 13;have x4_14:w4.cell? ⟨w.heap.size,14,none⟩ = some (.bool d.down):=T4.b1.cell 14;clear T4;clear C4
    cases t4 with
    | true =>
      go_wp2;go_ret
      exact wldP rfl (Stair.pass HOK.out (Stair.pass HFM.out (Stair.fall (fun h => by
        obtain ⟨t,ht,hh⟩:=H4.out.1 (by simp);have:=h t ht
        omega)))) HT4.out.bel
    | false =>
    have HFW:Hid (FewP d):=fun t ht => by
      by_cases c:200 < (d.tapes.2 t).recs.1
      · have:=H4.out.2 ⟨t,ht,c⟩
        simp at this
      · omega
    clear H4;have C5:=recsFault_any d _ hi w4 (layWorld.rd_below HRD.out HT4.out.bel hhi) (Nat.le_trans hhi HT4.out.bel.size) HNM.out
    go_wp2_with fail
    refine C5.mono ?_;rintro e w5 ⟨X,rfl,hX,b5⟩;have T5:One w w5 #[.int .i64 (d.shape 0),.int .i64 (d.shape 1),.int .i64 (d.shape 2),.int .i64 (d.shape 3),.int .i64 (d.shape 4),.int .i64 (d.shape 5),.int .i64 (d.shape 6),.int .i64 (d.shape 7),.int .i64 (d.shape 8),.slice ao1 d.groups.1 cap1,.slice ao2 d.on.1 cap2,.slice ao3 d.tapes.1 cap3,.int .i64 d.writes,.int .i64 d.stop,.bool d.down] 37:=HT4.out.call b5;have HT5:Hid (One w w5 #[.int .i64 (d.shape 0),.int .i64 (d.shape 1),.int .i64 (d.shape 2),.int .i64 (d.shape 3),.int .i64 (d.shape 4),.int .i64 (d.shape 5),.int .i64 (d.shape 6),.int .i64 (d.shape 7),.int .i64 (d.shape 8),.slice ao1 d.groups.1 cap1,.slice ao2 d.on.1 cap2,.slice ao3 d.tapes.1 cap3,.int .i64 d.writes,.int .i64 d.stop,.bool d.down] 37):=T5;clear b5 x4_0 x4_1 x4_2 x4_3 x4_4 x4_5 x4_6 x4_7 x4_8 x4_9 x4_10 x4_11 x4_12 x4_13 x4_14;have x5_0:w5.cell? ⟨w.heap.size,0,none⟩ = some (.int .i64 (d.shape 0)):=T5.b1.cell 0;have x5_1:w5.cell? ⟨w.heap.size,1,none⟩ = some (.int .i64 (d.shape 1)):=T5.b1.cell 1;have x5_2:w5.cell? ⟨w.heap.size,2,none⟩ = some (.int .i64 (d.shape 2)):=T5.b1.cell 2;have x5_3:w5.cell? ⟨w.heap.size,3,none⟩ = some (.int .i64 (d.shape 3)):=T5.b1.cell 3;have x5_4:w5.cell? ⟨w.heap.size,4,none⟩ = some (.int .i64 (d.shape 4)):=T5.b1.cell 4;have x5_5:w5.cell? ⟨w.heap.size,5,none⟩ = some (.int .i64 (d.shape 5)):=T5.b1.cell 5;have x5_6:w5.cell? ⟨w.heap.size,6,none⟩ = some (.int .i64 (d.shape 6)):=T5.b1.cell 6;have x5_7:w5.cell? ⟨w.heap.size,7,none⟩ = some (.int .i64 (d.shape 7)):=T5.b1.cell 7;have x5_8:w5.cell? ⟨w.heap.size,8,none⟩ = some (.int .i64 (d.shape 8)):=T5.b1.cell 8;have x5_9:w5.cell? ⟨w.heap.size,9,none⟩ = some (.slice ao1 d.groups.1 cap1):=T5.b1.cell 9;have x5_10:w5.cell? ⟨w.heap.size,10,none⟩ = some (.slice ao2 d.on.1 cap2):=T5.b1.cell 10;have x5_11:w5.cell? ⟨w.heap.size,11,none⟩ = some (.slice ao3 d.tapes.1 cap3):=T5.b1.cell 11;have x5_12:w5.cell? ⟨w.heap.size,12,none⟩ = some (.int .i64 d.writes):=T5.b1.cell 12;have x5_13:w5.cell? ⟨w.heap.size,13,none⟩ = some (.int .i64 d.stop):=T5.b1.cell 13;have x5_14:w5.cell? ⟨w.heap.size,14,none⟩ = some (.bool d.down):=T5.b1.cell 14;clear T5;clear C5
    by_cases hx0:X = 0
    · subst hx0
      have HRZ:Hid (RecsAns d.shape d.tapes.1 d.tapes.2 0):=hX;clear hX;obtain ⟨t6,h6⟩:=exB (Any_wipedWithRecs d.tapes);have C6:=det_b (contains_wipedWithRecs d.tapes _ _ hi w5 ((layTape.slice 90).rd_below HG3.out HT5.out.bel hhi) (Nat.le_trans hhi HT5.out.bel.size)) h6;have H6:Hid (t6 = true ↔ Any_wipedWithRecs d.tapes):=h6;clear h6
      go_wp2_with fail
      refine C6.mono ?_;rintro e w6 ⟨rfl,b6⟩;have T6:One w w6 #[.int .i64 (d.shape 0),.int .i64 (d.shape 1),.int .i64 (d.shape 2),.int .i64 (d.shape 3),.int .i64 (d.shape 4),.int .i64 (d.shape 5),.int .i64 (d.shape 6),.int .i64 (d.shape 7),.int .i64 (d.shape 8),.slice ao1 d.groups.1 cap1,.slice ao2 d.on.1 cap2,.slice ao3 d.tapes.1 cap3,.int .i64 d.writes,.int .i64 d.stop,.bool d.down] 37:=HT5.out.call b6;have HT6:Hid (One w w6 #[.int .i64 (d.shape 0),.int .i64 (d.shape 1),.int .i64 (d.shape 2),.int .i64 (d.shape 3),.int .i64 (d.shape 4),.int .i64 (d.shape 5),.int .i64 (d.shape 6),.int .i64 (d.shape 7),.int .i64 (d.shape 8),.slice ao1 d.groups.1 cap1,.slice ao2 d.on.1 cap2,.slice ao3 d.tapes.1 cap3,.int .i64 d.writes,.int .i64 d.stop,.bool d.down] 37):=T6;clear b6 x5_0 x5_1 x5_2 x5_3 x5_4 x5_5 x5_6 x5_7 x5_8 x5_9 x5_10 x5_11 x5_12 x5_13 x5_14;have x6_0:w6.cell? ⟨w.heap.size,0,none⟩ = some (.int .i64 (d.shape 0)):=T6.b1.cell 0;have x6_1:w6.cell? ⟨w.heap.size,1,none⟩ = some (.int .i64 (d.shape 1)):=T6.b1.cell 1;have x6_2:w6.cell? ⟨w.heap.size,2,none⟩ = some (.int .i64 (d.shape 2)):=T6.b1.cell 2;have x6_3:w6.cell? ⟨w.heap.size,3,none⟩ = some (.int .i64 (d.shape 3)):=T6.b1.cell 3;have x6_4:w6.cell? ⟨w.heap.size,4,none⟩ = some (.int .i64 (d.shape 4)):=T6.b1.cell 4;have x6_5:w6.cell? ⟨w.heap.size,5,none⟩ = some (.int .i64 (d.shape 5)):=T6.b1.cell 5;have x6_6:w6.cell? ⟨w.heap.size,6,none⟩ = some (.int .i64 (d.shape 6)):=T6.b1.cell 6;have x6_7:w6.cell? ⟨w.heap.size,7,none⟩ = some (.int .i64 (d.shape 7)):=T6.b1.cell 7;have x6_8:w6.cell? ⟨w.heap.size,8,none⟩ = some (.int .i64 (d.shape 8)):=T6.b1.cell 8;have x6_9:w6.cell? ⟨w.heap.size,9,none⟩ = some (.slice ao1 d.groups.1 cap1):=T6.b1.cell 9;have x6_10:w6.cell? ⟨w.heap.size,10,none⟩ = some (.slice ao2 d.on.1 cap2):=T6.b1.cell 10;have x6_11:w6.cell? ⟨w.heap.size,11,none⟩ = some (.slice ao3 d.tapes.1 cap3):=T6.b1.cell 11;have x6_12:w6.cell? ⟨w.heap.size,12,none⟩ = some (.int .i64 d.writes):=T6.b1.cell 12;have x6_13:w6.cell? ⟨w.heap.size,13,none⟩ = some (.int .i64 d.stop):=T6.b1.cell 13;have x6_14:w6.cell? ⟨w.heap.size,14,none⟩ = some (.bool d.down):=T6.b1.cell 14;clear T6;clear C6
      cases t6 with
      | true =>
        go_wp2;go_ret;exact wldP rfl (Stair.pass HOK.out (Stair.pass HFM.out (Stair.pass HFW.out (Stair.last (.inr ⟨HRZ.out,Stair.fall (fun h => by obtain ⟨t,ht,h1,h2⟩:=H6.out.1 (by simp);have:=h t ht h1;omega)⟩))))) HT6.out.bel
      | false =>
      have HCL:Hid (CleanP d):=fun t ht hw => by
        by_cases c:0 < (d.tapes.2 t).recs.1
        · have:=H6.out.2 ⟨t,ht,hw,c⟩
          simp at this
        · omega
      clear H6
      by_cases h7:InP d.writes 0 1000000000
      · go_wp2_with fail
        refine (inBounds_b (t:=true) (by omega) (exBT h7) _).mono ?_;rintro e w' ⟨rfl,hw'⟩;obtain rfl:=hw'.symm
        by_cases h8:InP d.stop (-1) 1000000000
        · go_wp2_with fail
          refine (inBounds_b (t:=true) (by omega) (exBT h8) _).mono ?_;rintro e w' ⟨rfl,hw'⟩;obtain rfl:=hw'.symm;go_wp2;go_ret;exact wldP rfl (Stair.pass HOK.out (Stair.pass HFM.out (Stair.pass HFW.out (Stair.last (.inr ⟨HRZ.out,Stair.pass HCL.out (Stair.pass ⟨h7,h8⟩ (Stair.last rfl))⟩))))) HT6.out.bel
        · go_wp2_with fail
          refine (inBounds_b (t:=false) (by omega) (exBF h8) _).mono ?_;rintro e w' ⟨rfl,hw'⟩;obtain rfl:=hw'.symm;go_wp2;go_ret;exact wldP rfl (Stair.pass HOK.out (Stair.pass HFM.out (Stair.pass HFW.out (Stair.last (.inr ⟨HRZ.out,Stair.pass HCL.out (Stair.fall (fun h => h8 h.2))⟩))))) HT6.out.bel
      · go_wp2_with fail
        refine (inBounds_b (t:=false) (by omega) (exBF h7) _).mono ?_;rintro e w' ⟨rfl,hw'⟩;obtain rfl:=hw'.symm;go_wp2;go_ret;exact wldP rfl (Stair.pass HOK.out (Stair.pass HFM.out (Stair.pass HFW.out (Stair.last (.inr ⟨HRZ.out,Stair.pass HCL.out (Stair.fall (fun h => h7 h.1))⟩))))) HT6.out.bel
    · have hne:(X != 0) = true:=by simp [hx0]
      go_wp2;go_ret;exact wldP rfl (Stair.pass HOK.out (Stair.pass HFM.out (Stair.pass HFW.out (Stair.last (.inl ⟨hx0,hX⟩))))) HT5.out.bel
  · have n5:((d.tapes.1:Int) != 2) = true:=by simp;omega
    go_wp2;go_ret;exact wldP rfl (Stair.pass HOK.out (Stair.fall (fun h => h5 h.2.2))) HT3.out.bel
end Go.Proofs.YtbjblbbbafiepaaGreat
namespace Go.Proofs.YtbjblbbbafiepaaGreat
open Go.RowKit F256
theorem world15 {w:World} {hi:Nat} {d:WorldD} {cs:List Value} (h:layWorld.rd w hi d cs):∃ v0 v1 v2 v3 v4 v5 v6 v7 v8 vp0 vl0 vq0 vp1 vl1 vq1 vp2 vl2 vq2 v9 v10 vb,cs = [.int .i64 v0,.int .i64 v1,.int .i64 v2,.int .i64 v3,.int .i64 v4,.int .i64 v5,.int .i64 v6,.int .i64 v7,.int .i64 v8,.slice vp0 vl0 vq0,.slice vp1 vl1 vq1,.slice vp2 vl2 vq2,.int .i64 v9,.int .i64 v10,.bool vb]:=by
  obtain ⟨p1,pc1,p2,pc2,p3,pc3,rfl,-⟩:=World_rd h;exact ⟨_,_,_,_,_,_,_,_,_,_,_,_,_,_,_,_,_,_,_,_,_,rfl⟩
theorem world15O {w:World} {lo hi:Nat} {d:WorldD} {cs:List Value} (h:OwnT layWorld w lo hi d cs):∃ v0 v1 v2 v3 v4 v5 v6 v7 v8 vp0 vl0 vq0 vp1 vl1 vq1 vp2 vl2 vq2 v9 v10 vb,cs = [.int .i64 v0,.int .i64 v1,.int .i64 v2,.int .i64 v3,.int .i64 v4,.int .i64 v5,.int .i64 v6,.int .i64 v7,.int .i64 v8,.slice vp0 vl0 vq0,.slice vp1 vl1 vq1,.slice vp2 vl2 vq2,.int .i64 v9,.int .i64 v10,.bool vb]:=world15 h.rd
theorem wld_ok_names {d:WorldD} (h:szWorldD d ≤ 1048576):∀ t,t < d.tapes.1 → ∀ i,i < (d.tapes.2 t).recs.1 → ((d.tapes.2 t).recs.2 i).name.size ≤ 1048576:=fun t ht i hi => by
  have h1:szSl szTapeD d.tapes ≤ 1048576:=by unfold szWorldD at h;omega
  have h2:szSl szRecD (d.tapes.2 t).recs ≤ 1048576:=szSl_at h1 ht;have h3:szRecD ((d.tapes.2 t).recs.2 i) ≤ 1048576:=szSl_at h2 hi;unfold szRecD at h3;omega
end Go.Proofs.YtbjblbbbafiepaaGreat
namespace Go.Proofs.YtbjblbbbafiepaaGreat
open Go.RowKit F256
def AskAns (d:WorldD) (x:Int):Prop:=(x ≠ 0 ∧ WldAns d x) ∨ (WldAns d 0 ∧ ((d.down = true ∧ x = 9) ∨ (d.down = false ∧ x = 0)))
theorem AskAns.one {d:WorldD} {x y:Int} (h:AskAns d x) (k:AskAns d y):x = y:=by
  rcases h with ⟨h1,h2⟩ | ⟨h1,h2⟩ <;> rcases k with ⟨k1,k2⟩ | ⟨k1,k2⟩
  · exact h2.one k2
  · exact absurd (h2.one k1) h1
  · exact absurd (k2.one h1) k1
  · rcases h2 with ⟨a,rfl⟩ | ⟨a,rfl⟩ <;> rcases k2 with ⟨b,rfl⟩ | ⟨b,rfl⟩
    · rfl
    · rw [a] at b;cases b
    · rw [a] at b;cases b
    · rfl
def IntPost (P:Int → Prop) (w:World) (e:Ending) (w':World):Prop:=∃ x,e = .returned (.int .i64 x) ∧ P x ∧ Below w.heap.size w w'
end Go.Proofs.YtbjblbbbafiepaaGreat
namespace Go.Proofs.YtbjblbbbafiepaaGreat
open Go.RowKit F256
set_option maxHeartbeats 4000000 in
set_option maxRecDepth 20000 in
theorem l5Asked_any (d:WorldD) (cs:List Value) (hi:Nat) (w:World) (h:layWorld.rd w hi d cs) (hhi:hi ≤ w.heap.size) (hsz:szWorldD d ≤ 1048576) :
    Calls Tryz.prog 74 #[.agg cs.toArray] w (IntPost (AskAns d) w):=by
  have C:=fun w' hb => specWorld_any d cs hi w' (layWorld.rd_below h (B:=w.heap.size) hb hhi);obtain ⟨ao1,cap1,ao2,cap2,ao3,cap3,rfl,-⟩:=World_rd h;have T0:=one_new w #[.int .i64 (d.shape 0),.int .i64 (d.shape 1),.int .i64 (d.shape 2),.int .i64 (d.shape 3),.int .i64 (d.shape 4),.int .i64 (d.shape 5),.int .i64 (d.shape 6),.int .i64 (d.shape 7),.int .i64 (d.shape 8),.slice ao1 d.groups.1 cap1,.slice ao2 d.on.1 cap2,.slice ao3 d.tapes.1 cap3,.int .i64 d.writes,.int .i64 d.stop,.bool d.down] 37;clear h
  go_enter Tryz.func74,Tryz.ntmps74
  go_wp2_with (refine wp_loadBox 37 (.tmp 1) rfl rfl w.heap.size rfl (cs:=[.int .i64 (d.shape 0),.int .i64 (d.shape 1),.int .i64 (d.shape 2),.int .i64 (d.shape 3),.int .i64 (d.shape 4),.int .i64 (d.shape 5),.int .i64 (d.shape 6),.int .i64 (d.shape 7),.int .i64 (d.shape 8),.slice ao1 d.groups.1 cap1,.slice ao2 d.on.1 cap2,.slice ao3 d.tapes.1 cap3,.int .i64 d.writes,.int .i64 d.stop,.bool d.down]) T0.b1 Tryz.underlying37 size_W rfl ?_)
  refine (C _ T0.bel (Nat.le_trans hhi T0.bel.size) (wld_ok_names hsz)).mono ?_;rintro e w1 ⟨x,rfl,hx,b1⟩;have T1:=T0.call b1;have HX:Hid (WldAns d x):=hx;have HB:Hid (Below w.heap.size w w1):=T1.bel;have c14:w1.cell? ⟨w.heap.size,14,none⟩ = some (.bool d.down):=T1.b1.cell 14;clear T0 T1 b1 C hx
  by_cases hx0:x = 0
  · subst hx0
    obtain ⟨dn,hdn⟩:∃ b,b = d.down:=⟨_,rfl⟩;rw [← hdn] at c14;have HD:Hid (dn = d.down):=hdn;clear hdn
    cases dn with
    | true =>
      go_wp2;go_ret;exact ⟨9,rfl,.inr ⟨HX.out,.inl ⟨HD.out.symm,rfl⟩⟩,HB.out⟩
    | false =>
      go_wp2;go_ret;exact ⟨0,rfl,.inr ⟨HX.out,.inr ⟨HD.out.symm,rfl⟩⟩,HB.out⟩
  · have hne:(x != 0) = true:=by simp [hx0]
    go_wp2;go_ret;exact ⟨x,rfl,.inl ⟨hx0,HX.out⟩,HB.out⟩
set_option maxHeartbeats 4000000 in
set_option maxRecDepth 20000 in
theorem powered_any (d:WorldD) (cs:List Value) (hi:Nat) (w:World) (h:layWorld.rd w hi d cs) (hhi:hi ≤ w.heap.size) (hsz:szWorldD d ≤ 1048576) :
    Calls Tryz.prog 78 #[.agg cs.toArray] w (IntPost (AskAns d) w):=by
  have C:=fun w' hb => implWorld_any d cs hi w' (layWorld.rd_below h (B:=w.heap.size) hb hhi);obtain ⟨ao1,cap1,ao2,cap2,ao3,cap3,rfl,-⟩:=World_rd h;have T0:=one_new w #[.int .i64 (d.shape 0),.int .i64 (d.shape 1),.int .i64 (d.shape 2),.int .i64 (d.shape 3),.int .i64 (d.shape 4),.int .i64 (d.shape 5),.int .i64 (d.shape 6),.int .i64 (d.shape 7),.int .i64 (d.shape 8),.slice ao1 d.groups.1 cap1,.slice ao2 d.on.1 cap2,.slice ao3 d.tapes.1 cap3,.int .i64 d.writes,.int .i64 d.stop,.bool d.down] 37;clear h
  go_enter Tryz.func78,Tryz.ntmps78
  go_wp2_with (refine wp_loadBox 37 (.tmp 1) rfl rfl w.heap.size rfl (cs:=[.int .i64 (d.shape 0),.int .i64 (d.shape 1),.int .i64 (d.shape 2),.int .i64 (d.shape 3),.int .i64 (d.shape 4),.int .i64 (d.shape 5),.int .i64 (d.shape 6),.int .i64 (d.shape 7),.int .i64 (d.shape 8),.slice ao1 d.groups.1 cap1,.slice ao2 d.on.1 cap2,.slice ao3 d.tapes.1 cap3,.int .i64 d.writes,.int .i64 d.stop,.bool d.down]) T0.b1 Tryz.underlying37 size_W rfl ?_)
  refine (C _ T0.bel (Nat.le_trans hhi T0.bel.size) (wld_ok_names hsz)).mono ?_;rintro e w1 ⟨x,rfl,hx,b1⟩;have T1:=T0.call b1;have HX:Hid (WldAns d x):=hx;have HB:Hid (Below w.heap.size w w1):=T1.bel;have c14:w1.cell? ⟨w.heap.size,14,none⟩ = some (.bool d.down):=T1.b1.cell 14;clear T0 T1 b1 C hx
  by_cases hx0:x = 0
  · subst hx0
    obtain ⟨dn,hdn⟩:∃ b,b = d.down:=⟨_,rfl⟩;rw [← hdn] at c14;have HD:Hid (dn = d.down):=hdn;clear hdn
    cases dn with
    | true =>
      go_wp2;go_ret;exact ⟨9,rfl,.inr ⟨HX.out,.inl ⟨HD.out.symm,rfl⟩⟩,HB.out⟩
    | false =>
      go_wp2;go_ret;exact ⟨0,rfl,.inr ⟨HX.out,.inr ⟨HD.out.symm,rfl⟩⟩,HB.out⟩
  · have hne:(x != 0) = true:=by simp [hx0]
    go_wp2;go_ret;exact ⟨x,rfl,.inl ⟨hx0,HX.out⟩,HB.out⟩
def PlaceP (s:Nat → Int) (g k r:Int):Prop:=InP g 0 (s 0 + s 1 - 1) ∧ InP k 0 (s 2 + s 3 - 1) ∧ InP r 0 (s 4 - 1)
theorem size_S:(Tryz.prog.info? 33).map (·.size) = some 9:=by kernel_rfl
set_option maxHeartbeats 4000000 in
set_option maxRecDepth 20000 in
theorem l5Place_any (s:Nat → Int) (hok:OkShape s) (g k r:Int) (w:World):Calls Tryz.prog 75 #[shapeV s,.int .i64 g,.int .i64 k,.int .i64 r] w (BoolP (PlaceP s g k r) w):=by
  have hb:=okB hok;obtain ⟨t1,h1⟩:=exB (InP g 0 (s 0 + s 1 - 1));obtain ⟨t2,h2⟩:=exB (InP k 0 (s 2 + s 3 - 1));obtain ⟨t3,h3⟩:=exB (InP r 0 (s 4 - 1));have CA:=fun w' => l5All_any s hok w';have CD:=fun w' => l5Drives_any s hok w';have C1:=fun w' => l1In_b (w:=w') h1;have C2:=fun w' => l1In_b (w:=w') h2;have C3:=fun w' => l1In_b (w:=w') h3
  have HE:Hid (PlaceP s g k r ↔ (t1 = true ∧ t2 = true ∧ t3 = true)):=by
    show PlaceP s g k r ↔ _
    rw [h1,h2,h3];exact Iff.rfl
  have T0:=one_new w #[.int .i64 (s 0),.int .i64 (s 1),.int .i64 (s 2),.int .i64 (s 3),.int .i64 (s 4),.int .i64 (s 5),.int .i64 (s 6),.int .i64 (s 7),.int .i64 (s 8)] 33;unfold shapeV at CA CD ⊢;clear h1 h2 h3 hok
  go_enter Tryz.func75,Tryz.ntmps75
  go_wp2_with (refine wp_loadBox 33 (.tmp 4) rfl rfl w.heap.size rfl (cs:=[.int .i64 (s 0),.int .i64 (s 1),.int .i64 (s 2),.int .i64 (s 3),.int .i64 (s 4),.int .i64 (s 5),.int .i64 (s 6),.int .i64 (s 7),.int .i64 (s 8)]) T0.b1 Tryz.underlying33 size_S rfl ?_)
  refine (CA _).mono ?_;rintro e w1 ⟨rfl,b1⟩;have T1:=T0.call b1;have HT1:Hid (One w w1 #[.int .i64 (s 0),.int .i64 (s 1),.int .i64 (s 2),.int .i64 (s 3),.int .i64 (s 4),.int .i64 (s 5),.int .i64 (s 6),.int .i64 (s 7),.int .i64 (s 8)] 33):=T1
  have z1:IntKind.i64.wrap (s 0 + s 1 - 1) = s 0 + s 1 - 1:=by rw [IntKind.wrap_i64];omega
  have z2:IntKind.i64.wrap (s 2 + s 3 - 1) = s 2 + s 3 - 1:=by rw [IntKind.wrap_i64];omega
  have z3:IntKind.i64.wrap (s 4 - 1) = s 4 - 1:=by rw [IntKind.wrap_i64];omega
  have x_0:w1.cell? ⟨w.heap.size,0,none⟩ = some (.int .i64 (s 0)):=T1.b1.cell 0;have x_1:w1.cell? ⟨w.heap.size,1,none⟩ = some (.int .i64 (s 1)):=T1.b1.cell 1;have x_2:w1.cell? ⟨w.heap.size,2,none⟩ = some (.int .i64 (s 2)):=T1.b1.cell 2;have x_3:w1.cell? ⟨w.heap.size,3,none⟩ = some (.int .i64 (s 3)):=T1.b1.cell 3;have x_4:w1.cell? ⟨w.heap.size,4,none⟩ = some (.int .i64 (s 4)):=T1.b1.cell 4;have x_5:w1.cell? ⟨w.heap.size,5,none⟩ = some (.int .i64 (s 5)):=T1.b1.cell 5;have x_6:w1.cell? ⟨w.heap.size,6,none⟩ = some (.int .i64 (s 6)):=T1.b1.cell 6;have x_7:w1.cell? ⟨w.heap.size,7,none⟩ = some (.int .i64 (s 7)):=T1.b1.cell 7;have x_8:w1.cell? ⟨w.heap.size,8,none⟩ = some (.int .i64 (s 8)):=T1.b1.cell 8;clear T0 b1 T1
  go_wp2_with fail
  refine (C1 _).mono ?_;rintro e w' ⟨rfl,hw'⟩;obtain rfl:=hw'.symm
  cases t1 with
  | false =>
    go_wp2;go_ret;exact boolNo rfl (fun h => by have:=HE.out.1 h;simp at this) HT1.out.bel
  | true =>
  go_wp2_with fail
  refine (CD _).mono ?_;rintro e w2 ⟨rfl,b2⟩;have T2:=HT1.out.call b2;have HB2:Hid (Below w.heap.size w w2):=T2.bel;have y4:w2.cell? ⟨w.heap.size,4,none⟩ = some (.int .i64 (s 4)):=T2.b1.cell 4;clear b2 T2 x_0 x_1 x_2 x_3 x_4 x_5 x_6 x_7 x_8
  go_wp2_with fail
  refine (C2 _).mono ?_;rintro e w' ⟨rfl,hw'⟩;obtain rfl:=hw'.symm
  cases t2 with
  | false =>
    go_wp2;go_ret;exact boolNo rfl (fun h => by have:=HE.out.1 h;simp at this) HB2.out
  | true =>
  go_wp2_with fail
  refine (C3 _).mono ?_;rintro e w' ⟨rfl,hw'⟩;obtain rfl:=hw'.symm
  cases t3 with
  | false =>
    go_wp2;go_ret;exact boolNo rfl (fun h => by have:=HE.out.1 h;simp at this) HB2.out
  | true =>
    go_wp2;go_ret;exact boolYes rfl (HE.out.2 (by simp)) HB2.out
set_option maxHeartbeats 4000000 in
set_option maxRecDepth 20000 in
theorem isOn_any (d:WorldD) (cs:List Value) (hi:Nat) (g:Int) (w:World) (h:layWorld.rd w hi d cs) (hhi:hi ≤ w.heap.size):Calls Tryz.prog 107 #[.agg cs.toArray,.int .i64 g] w (BoolP (HasP d.on.1 d.on.2 g) w):=by
  obtain ⟨ao1,cap1,ao2,cap2,ao3,cap3,rfl,g1,g2,g3,-⟩:=World_rd h;obtain ⟨_,e2,⟨h2,_⟩,_⟩:=g2
  cases e2
  have T0:=one_new w #[.int .i64 (d.shape 0),.int .i64 (d.shape 1),.int .i64 (d.shape 2),.int .i64 (d.shape 3),.int .i64 (d.shape 4),.int .i64 (d.shape 5),.int .i64 (d.shape 6),.int .i64 (d.shape 7),.int .i64 (d.shape 8),.slice ao1 d.groups.1 cap1,.slice ao2 d.on.1 cap2,.slice ao3 d.tapes.1 cap3,.int .i64 d.writes,.int .i64 d.stop,.bool d.down] 37;have C:=contains_any (.slice ao2 d.on.1 cap2) d.on.1 d.on.2 hi g _ (h2.below T0.bel hhi);clear h g1 g3 h2
  go_enter Tryz.func107,Tryz.ntmps107
  go_wp2_with fail
  refine C.mono ?_;rintro e w1 ⟨b,rfl,hb,b1⟩;have HP:Hid (b = true ↔ HasP d.on.1 d.on.2 g):=hb;have HB:Hid (Below w.heap.size w w1):=(T0.call b1).bel;clear b1 T0 C hb;go_wp2;go_ret;exact ⟨b,rfl,HP.out,HB.out⟩
end Go.Proofs.YtbjblbbbafiepaaGreat
namespace Go.Proofs.YtbjblbbbafiepaaGreat
open Go.RowKit F256
theorem ask_ok {d:WorldD} (h:AskAns d 0):OkWorld d:=by
  rcases h with ⟨h,_⟩ | ⟨h,_⟩
  · exact absurd rfl h
  · exact h.ok
end Go.Proofs.YtbjblbbbafiepaaGreat
namespace Go.Proofs.YtbjblbbbafiepaaGreat
open Go.RowKit F256
def WhP (s:Nat → Int) (g r:Int):Prop:=InP g 0 (s 0 + s 1 - 1) ∧ InP r 0 (s 4 - 1)
theorem place_wh {s:Nat → Int} (h:OkShape s) (g r:Int):PlaceP s g 0 r ↔ WhP s g r:=by
  obtain ⟨s1,s2,_⟩:=h;unfold Shp at s2;unfold PlaceP WhP
  constructor
  · rintro ⟨a,b,c⟩;exact ⟨a,c⟩
  · rintro ⟨a,c⟩;exact ⟨a,by unfold InP;omega,c⟩
def WhereAns (d:WorldD) (g r x:Int):Prop:=(x ≠ 0 ∧ AskAns d x) ∨ (AskAns d 0 ∧ ((¬ WhP d.shape g r ∧ x = 3) ∨ (WhP d.shape g r ∧ ((¬ HasP d.on.1 d.on.2 g ∧ x = 8) ∨ (HasP d.on.1 d.on.2 g ∧ x = 0)))))
theorem WhereAns.one {d:WorldD} {g r x y:Int} (h:WhereAns d g r x) (l:WhereAns d g r y):x = y:=by
  rcases h with ⟨h1,h2⟩ | ⟨h1,h⟩ <;> rcases l with ⟨k1,k2⟩ | ⟨k1,l⟩
  · exact h2.one k2
  · exact absurd (h2.one k1) h1
  · exact absurd (k2.one h1) k1
  · rcases h with ⟨h2,rfl⟩ | ⟨h2,h⟩ <;> rcases l with ⟨k2,rfl⟩ | ⟨k2,l⟩
    · rfl
    · exact absurd k2 h2
    · exact absurd h2 k2
    · rcases h with ⟨h3,rfl⟩ | ⟨h3,rfl⟩ <;> rcases l with ⟨k3,rfl⟩ | ⟨k3,rfl⟩
      · rfl
      · exact absurd k3 h3
      · exact absurd h3 k3
      · rfl
def CodeP (P:Int → Prop) (w:World) (e:Ending) (w':World):Prop:=∃ x,e = .returned (.int .i64 x) ∧ P x ∧ Below w.heap.size w w'
set_option maxHeartbeats 8000000 in
set_option maxRecDepth 20000 in
theorem onFault_any (d:WorldD) (g:Int) (cs:List Value) (hi:Nat) (w:World) (h:layWorld.rd w hi d cs) (hhi:hi ≤ w.heap.size) (hok:OkShape d.shape) :
    Calls Tryz.prog 80 #[.agg cs.toArray,.int .i64 g] w (CodeP (fun x => (¬ InP g 0 (d.shape 0 + d.shape 1 - 1) ∧ x = 3) ∨ (InP g 0 (d.shape 0 + d.shape 1 - 1) ∧ ((¬ HasP d.on.1 d.on.2 g ∧ x = 8) ∨ (HasP d.on.1 d.on.2 g ∧ x = 0)))) w):=by
  have h':=h;obtain ⟨ao1,cap1,ao2,cap2,ao3,cap3,rfl,g1,g2,g3,k0,k4,k5⟩:=World_rd h';have HRD:Hid (layWorld.rd w hi d [.int .i64 (d.shape 0),.int .i64 (d.shape 1),.int .i64 (d.shape 2),.int .i64 (d.shape 3),.int .i64 (d.shape 4),.int .i64 (d.shape 5),.int .i64 (d.shape 6),.int .i64 (d.shape 7),.int .i64 (d.shape 8),.slice ao1 d.groups.1 cap1,.slice ao2 d.on.1 cap2,.slice ao3 d.tapes.1 cap3,.int .i64 d.writes,.int .i64 d.stop,.bool d.down]):=h
  have HG2:Hid (RdI w hi (.slice ao2 d.on.1 cap2) d.on.1 d.on.2):=by
    obtain ⟨_,e2,⟨h2,_⟩,_⟩:=g2
    cases e2
    exact h2
  clear h h' g1 g2 g3 k0 k4 k5;have T0:=one_new w #[.int .i64 (d.shape 0),.int .i64 (d.shape 1),.int .i64 (d.shape 2),.int .i64 (d.shape 3),.int .i64 (d.shape 4),.int .i64 (d.shape 5),.int .i64 (d.shape 6),.int .i64 (d.shape 7),.int .i64 (d.shape 8),.slice ao1 d.groups.1 cap1,.slice ao2 d.on.1 cap2,.slice ao3 d.tapes.1 cap3,.int .i64 d.writes,.int .i64 d.stop,.bool d.down] 37;have HT:Hid (One w (w.alloc (.cells #[.int .i64 (d.shape 0),.int .i64 (d.shape 1),.int .i64 (d.shape 2),.int .i64 (d.shape 3),.int .i64 (d.shape 4),.int .i64 (d.shape 5),.int .i64 (d.shape 6),.int .i64 (d.shape 7),.int .i64 (d.shape 8),.slice ao1 d.groups.1 cap1,.slice ao2 d.on.1 cap2,.slice ao3 d.tapes.1 cap3,.int .i64 d.writes,.int .i64 d.stop,.bool d.down] 37)) #[.int .i64 (d.shape 0),.int .i64 (d.shape 1),.int .i64 (d.shape 2),.int .i64 (d.shape 3),.int .i64 (d.shape 4),.int .i64 (d.shape 5),.int .i64 (d.shape 6),.int .i64 (d.shape 7),.int .i64 (d.shape 8),.slice ao1 d.groups.1 cap1,.slice ao2 d.on.1 cap2,.slice ao3 d.tapes.1 cap3,.int .i64 d.writes,.int .i64 d.stop,.bool d.down] 37):=T0;obtain ⟨t,ht⟩:=exB (InP g 0 (d.shape 0 + d.shape 1 - 1));have Ht:Hid (t = true ↔ InP g 0 (d.shape 0 + d.shape 1 - 1)):=ht;have CI:=isGroup_b hok ht (w.alloc (.cells #[.int .i64 (d.shape 0),.int .i64 (d.shape 1),.int .i64 (d.shape 2),.int .i64 (d.shape 3),.int .i64 (d.shape 4),.int .i64 (d.shape 5),.int .i64 (d.shape 6),.int .i64 (d.shape 7),.int .i64 (d.shape 8),.slice ao1 d.groups.1 cap1,.slice ao2 d.on.1 cap2,.slice ao3 d.tapes.1 cap3,.int .i64 d.writes,.int .i64 d.stop,.bool d.down] 37));unfold shapeV at CI;have x_0:(w.alloc (.cells #[.int .i64 (d.shape 0),.int .i64 (d.shape 1),.int .i64 (d.shape 2),.int .i64 (d.shape 3),.int .i64 (d.shape 4),.int .i64 (d.shape 5),.int .i64 (d.shape 6),.int .i64 (d.shape 7),.int .i64 (d.shape 8),.slice ao1 d.groups.1 cap1,.slice ao2 d.on.1 cap2,.slice ao3 d.tapes.1 cap3,.int .i64 d.writes,.int .i64 d.stop,.bool d.down] 37)).cell? ⟨w.heap.size,0,none⟩ = some (.int .i64 (d.shape 0)):=T0.b1.cell 0;have x_1:(w.alloc (.cells #[.int .i64 (d.shape 0),.int .i64 (d.shape 1),.int .i64 (d.shape 2),.int .i64 (d.shape 3),.int .i64 (d.shape 4),.int .i64 (d.shape 5),.int .i64 (d.shape 6),.int .i64 (d.shape 7),.int .i64 (d.shape 8),.slice ao1 d.groups.1 cap1,.slice ao2 d.on.1 cap2,.slice ao3 d.tapes.1 cap3,.int .i64 d.writes,.int .i64 d.stop,.bool d.down] 37)).cell? ⟨w.heap.size,1,none⟩ = some (.int .i64 (d.shape 1)):=T0.b1.cell 1;have x_2:(w.alloc (.cells #[.int .i64 (d.shape 0),.int .i64 (d.shape 1),.int .i64 (d.shape 2),.int .i64 (d.shape 3),.int .i64 (d.shape 4),.int .i64 (d.shape 5),.int .i64 (d.shape 6),.int .i64 (d.shape 7),.int .i64 (d.shape 8),.slice ao1 d.groups.1 cap1,.slice ao2 d.on.1 cap2,.slice ao3 d.tapes.1 cap3,.int .i64 d.writes,.int .i64 d.stop,.bool d.down] 37)).cell? ⟨w.heap.size,2,none⟩ = some (.int .i64 (d.shape 2)):=T0.b1.cell 2
  have x_3:(w.alloc (.cells #[.int .i64 (d.shape 0),.int .i64 (d.shape 1),.int .i64 (d.shape 2),.int .i64 (d.shape 3),.int .i64 (d.shape 4),.int .i64 (d.shape 5),.int .i64 (d.shape 6),.int .i64 (d.shape 7),.int .i64 (d.shape 8),.slice ao1 d.groups.1 cap1,.slice ao2 d.on.1 cap2,.slice ao3 d.tapes.1 cap3,.int .i64 d.writes,.int .i64 d.stop,.bool d.down] 37)).cell? ⟨w.heap.size,3,none⟩ = some (.int .i64 (d.shape 3)):=T0.b1.cell 3;have x_4:(w.alloc (.cells #[.int .i64 (d.shape 0),.int .i64 (d.shape 1),.int .i64 (d.shape 2),.int .i64 (d.shape 3),.int .i64 (d.shape 4),.int .i64 (d.shape 5),.int .i64 (d.shape 6),.int .i64 (d.shape 7),.int .i64 (d.shape 8),.slice ao1 d.groups.1 cap1,.slice ao2 d.on.1 cap2,.slice ao3 d.tapes.1 cap3,.int .i64 d.writes,.int .i64 d.stop,.bool d.down] 37)).cell? ⟨w.heap.size,4,none⟩ = some (.int .i64 (d.shape 4)):=T0.b1.cell 4;have x_5:(w.alloc (.cells #[.int .i64 (d.shape 0),.int .i64 (d.shape 1),.int .i64 (d.shape 2),.int .i64 (d.shape 3),.int .i64 (d.shape 4),.int .i64 (d.shape 5),.int .i64 (d.shape 6),.int .i64 (d.shape 7),.int .i64 (d.shape 8),.slice ao1 d.groups.1 cap1,.slice ao2 d.on.1 cap2,.slice ao3 d.tapes.1 cap3,.int .i64 d.writes,.int .i64 d.stop,.bool d.down] 37)).cell? ⟨w.heap.size,5,none⟩ = some (.int .i64 (d.shape 5)):=T0.b1.cell 5;have x_6:(w.alloc (.cells #[.int .i64 (d.shape 0),.int .i64 (d.shape 1),.int .i64 (d.shape 2),.int .i64 (d.shape 3),.int .i64 (d.shape 4),.int .i64 (d.shape 5),.int .i64 (d.shape 6),.int .i64 (d.shape 7),.int .i64 (d.shape 8),.slice ao1 d.groups.1 cap1,.slice ao2 d.on.1 cap2,.slice ao3 d.tapes.1 cap3,.int .i64 d.writes,.int .i64 d.stop,.bool d.down] 37)).cell? ⟨w.heap.size,6,none⟩ = some (.int .i64 (d.shape 6)):=T0.b1.cell 6;have x_7:(w.alloc (.cells #[.int .i64 (d.shape 0),.int .i64 (d.shape 1),.int .i64 (d.shape 2),.int .i64 (d.shape 3),.int .i64 (d.shape 4),.int .i64 (d.shape 5),.int .i64 (d.shape 6),.int .i64 (d.shape 7),.int .i64 (d.shape 8),.slice ao1 d.groups.1 cap1,.slice ao2 d.on.1 cap2,.slice ao3 d.tapes.1 cap3,.int .i64 d.writes,.int .i64 d.stop,.bool d.down] 37)).cell? ⟨w.heap.size,7,none⟩ = some (.int .i64 (d.shape 7)):=T0.b1.cell 7;have x_8:(w.alloc (.cells #[.int .i64 (d.shape 0),.int .i64 (d.shape 1),.int .i64 (d.shape 2),.int .i64 (d.shape 3),.int .i64 (d.shape 4),.int .i64 (d.shape 5),.int .i64 (d.shape 6),.int .i64 (d.shape 7),.int .i64 (d.shape 8),.slice ao1 d.groups.1 cap1,.slice ao2 d.on.1 cap2,.slice ao3 d.tapes.1 cap3,.int .i64 d.writes,.int .i64 d.stop,.bool d.down] 37)).cell? ⟨w.heap.size,8,none⟩ = some (.int .i64 (d.shape 8)):=T0.b1.cell 8;clear ht T0
  go_enter Tryz.func80,Tryz.ntmps80
  go_wp2_with fail
  refine CI.mono ?_;rintro e w2 ⟨rfl,b2⟩;have HT2:Hid (One w w2 #[.int .i64 (d.shape 0),.int .i64 (d.shape 1),.int .i64 (d.shape 2),.int .i64 (d.shape 3),.int .i64 (d.shape 4),.int .i64 (d.shape 5),.int .i64 (d.shape 6),.int .i64 (d.shape 7),.int .i64 (d.shape 8),.slice ao1 d.groups.1 cap1,.slice ao2 d.on.1 cap2,.slice ao3 d.tapes.1 cap3,.int .i64 d.writes,.int .i64 d.stop,.bool d.down] 37):=HT.out.call b2;clear CI b2 HT x_0 x_1 x_2 x_3 x_4 x_5 x_6 x_7 x_8
  cases t with
  | false =>
    go_wp2;go_ret;exact ⟨3,rfl,.inl ⟨fun h => (by have:=Ht.out.2 h;cases this),rfl⟩,HT2.out.bel⟩
  | true =>
  go_wp2_with (refine wp_loadBox 37 (.tmp 2) rfl rfl (w.heap.size) rfl (cs:=[.int .i64 (d.shape 0),.int .i64 (d.shape 1),.int .i64 (d.shape 2),.int .i64 (d.shape 3),.int .i64 (d.shape 4),.int .i64 (d.shape 5),.int .i64 (d.shape 6),.int .i64 (d.shape 7),.int .i64 (d.shape 8),.slice ao1 d.groups.1 cap1,.slice ao2 d.on.1 cap2,.slice ao3 d.tapes.1 cap3,.int .i64 d.writes,.int .i64 d.stop,.bool d.down]) (HT2.out.b1) Tryz.underlying37 size_W rfl ?_)
  refine (isOn_any d _ hi g _ (layWorld.rd_below HRD.out HT2.out.bel hhi) (Nat.le_trans hhi HT2.out.bel.size)).mono ?_;rintro e w3 ⟨t,rfl,ht,b3⟩;have HB:Hid (Below w.heap.size w w3):=(HT2.out.call b3).bel;have HH:Hid (t = true ↔ HasP d.on.1 d.on.2 g):=ht;clear ht b3 HT2
  cases t with
  | false =>
    go_wp2;go_ret;exact ⟨8,rfl,.inr ⟨Ht.out.1 (by simp),.inl ⟨fun h => (by have:=HH.out.2 h;cases this),rfl⟩⟩,HB.out⟩
  | true =>
    go_wp2;go_ret;exact ⟨0,rfl,.inr ⟨Ht.out.1 (by simp),.inr ⟨HH.out.1 (by simp),rfl⟩⟩,HB.out⟩
set_option maxHeartbeats 8000000 in
set_option maxRecDepth 20000 in
theorem rowFault_any (d:WorldD) (g r:Int) (cs:List Value) (hi:Nat) (w:World) (h:layWorld.rd w hi d cs) (hhi:hi ≤ w.heap.size) (hsz:szWorldD d ≤ 1048576) :
    Calls Tryz.prog 46 #[.agg cs.toArray,.int .i64 g,.int .i64 r] w (CodeP (WhereAns d g r) w):=by
  have h':=h;obtain ⟨ao1,cap1,ao2,cap2,ao3,cap3,rfl,g1,g2,g3,k0,k4,k5⟩:=World_rd h';have HRD:Hid (layWorld.rd w hi d [.int .i64 (d.shape 0),.int .i64 (d.shape 1),.int .i64 (d.shape 2),.int .i64 (d.shape 3),.int .i64 (d.shape 4),.int .i64 (d.shape 5),.int .i64 (d.shape 6),.int .i64 (d.shape 7),.int .i64 (d.shape 8),.slice ao1 d.groups.1 cap1,.slice ao2 d.on.1 cap2,.slice ao3 d.tapes.1 cap3,.int .i64 d.writes,.int .i64 d.stop,.bool d.down]):=h
  have HG2:Hid (RdI w hi (.slice ao2 d.on.1 cap2) d.on.1 d.on.2):=by
    obtain ⟨_,e2,⟨h2,_⟩,_⟩:=g2
    cases e2
    exact h2
  clear h h' g1 g2 g3 k0 k4 k5;have T0:=one_new w #[.int .i64 (d.shape 0),.int .i64 (d.shape 1),.int .i64 (d.shape 2),.int .i64 (d.shape 3),.int .i64 (d.shape 4),.int .i64 (d.shape 5),.int .i64 (d.shape 6),.int .i64 (d.shape 7),.int .i64 (d.shape 8),.slice ao1 d.groups.1 cap1,.slice ao2 d.on.1 cap2,.slice ao3 d.tapes.1 cap3,.int .i64 d.writes,.int .i64 d.stop,.bool d.down] 37;have HSZ:Hid (szWorldD d ≤ 1048576):=hsz;clear hsz
  go_enter Tryz.func46,Tryz.ntmps46
  go_wp2_with (refine wp_loadBox 37 (.tmp 3) rfl rfl (w.heap.size) rfl (cs:=[.int .i64 (d.shape 0),.int .i64 (d.shape 1),.int .i64 (d.shape 2),.int .i64 (d.shape 3),.int .i64 (d.shape 4),.int .i64 (d.shape 5),.int .i64 (d.shape 6),.int .i64 (d.shape 7),.int .i64 (d.shape 8),.slice ao1 d.groups.1 cap1,.slice ao2 d.on.1 cap2,.slice ao3 d.tapes.1 cap3,.int .i64 d.writes,.int .i64 d.stop,.bool d.down]) (T0.b1) Tryz.underlying37 size_W rfl ?_)
  refine (powered_any d _ hi _ (layWorld.rd_below HRD.out T0.bel hhi) (Nat.le_trans hhi T0.bel.size) HSZ.out).mono ?_;rintro e w1 ⟨x,rfl,hx,b1⟩;have HT1:Hid (One w w1 #[.int .i64 (d.shape 0),.int .i64 (d.shape 1),.int .i64 (d.shape 2),.int .i64 (d.shape 3),.int .i64 (d.shape 4),.int .i64 (d.shape 5),.int .i64 (d.shape 6),.int .i64 (d.shape 7),.int .i64 (d.shape 8),.slice ao1 d.groups.1 cap1,.slice ao2 d.on.1 cap2,.slice ao3 d.tapes.1 cap3,.int .i64 d.writes,.int .i64 d.stop,.bool d.down] 37):=T0.call b1;have HX:Hid (AskAns d x):=hx;clear b1 T0 hx
  by_cases hx0:x = 0
  case neg =>
    have hne:(x != 0) = true:=by simp [hx0]
    go_wp2;go_ret;exact ⟨x,rfl,.inl ⟨hx0,HX.out⟩,HT1.out.bel⟩
  subst hx0;have HOK:Hid (OkWorld d):=ask_ok HX.out;have x_0:w1.cell? ⟨w.heap.size,0,none⟩ = some (.int .i64 (d.shape 0)):=HT1.out.b1.cell 0;have x_1:w1.cell? ⟨w.heap.size,1,none⟩ = some (.int .i64 (d.shape 1)):=HT1.out.b1.cell 1;have x_2:w1.cell? ⟨w.heap.size,2,none⟩ = some (.int .i64 (d.shape 2)):=HT1.out.b1.cell 2;have x_3:w1.cell? ⟨w.heap.size,3,none⟩ = some (.int .i64 (d.shape 3)):=HT1.out.b1.cell 3;have x_4:w1.cell? ⟨w.heap.size,4,none⟩ = some (.int .i64 (d.shape 4)):=HT1.out.b1.cell 4;have x_5:w1.cell? ⟨w.heap.size,5,none⟩ = some (.int .i64 (d.shape 5)):=HT1.out.b1.cell 5;have x_6:w1.cell? ⟨w.heap.size,6,none⟩ = some (.int .i64 (d.shape 6)):=HT1.out.b1.cell 6;have x_7:w1.cell? ⟨w.heap.size,7,none⟩ = some (.int .i64 (d.shape 7)):=HT1.out.b1.cell 7;have x_8:w1.cell? ⟨w.heap.size,8,none⟩ = some (.int .i64 (d.shape 8)):=HT1.out.b1.cell 8;obtain ⟨t,ht⟩:=exB (InP r 0 (d.shape 4 - 1));have Ht:Hid (t = true ↔ InP r 0 (d.shape 4 - 1)):=ht;have CI:=isRow_b HOK.out.shape ht w1;unfold shapeV at CI;clear ht
  go_wp2_with fail
  refine CI.mono ?_;rintro e w2 ⟨rfl,b2⟩;have HT2:Hid (One w w2 #[.int .i64 (d.shape 0),.int .i64 (d.shape 1),.int .i64 (d.shape 2),.int .i64 (d.shape 3),.int .i64 (d.shape 4),.int .i64 (d.shape 5),.int .i64 (d.shape 6),.int .i64 (d.shape 7),.int .i64 (d.shape 8),.slice ao1 d.groups.1 cap1,.slice ao2 d.on.1 cap2,.slice ao3 d.tapes.1 cap3,.int .i64 d.writes,.int .i64 d.stop,.bool d.down] 37):=HT1.out.call b2;clear CI b2 HT1 x_0 x_1 x_2 x_3 x_4 x_5 x_6 x_7 x_8
  cases t with
  | false =>
    go_wp2;go_ret;exact ⟨3,rfl,.inr ⟨HX.out,.inl ⟨fun h => (by have:=Ht.out.2 h.2;cases this),rfl⟩⟩,HT2.out.bel⟩
  | true =>
  go_wp2_with (refine wp_loadBox 37 (.tmp 3) rfl rfl (w.heap.size) rfl (cs:=[.int .i64 (d.shape 0),.int .i64 (d.shape 1),.int .i64 (d.shape 2),.int .i64 (d.shape 3),.int .i64 (d.shape 4),.int .i64 (d.shape 5),.int .i64 (d.shape 6),.int .i64 (d.shape 7),.int .i64 (d.shape 8),.slice ao1 d.groups.1 cap1,.slice ao2 d.on.1 cap2,.slice ao3 d.tapes.1 cap3,.int .i64 d.writes,.int .i64 d.stop,.bool d.down]) (HT2.out.b1) Tryz.underlying37 size_W rfl ?_)
  refine (onFault_any d g _ hi _ (layWorld.rd_below HRD.out HT2.out.bel hhi) (Nat.le_trans hhi HT2.out.bel.size) HOK.out.shape).mono ?_;rintro e w3 ⟨x,rfl,hx,b3⟩;have HB:Hid (Below w.heap.size w w3):=(HT2.out.call b3).bel;have HXX:Hid ((¬ InP g 0 (d.shape 0 + d.shape 1 - 1) ∧ x = 3) ∨ (InP g 0 (d.shape 0 + d.shape 1 - 1) ∧ ((¬ HasP d.on.1 d.on.2 g ∧ x = 8) ∨ (HasP d.on.1 d.on.2 g ∧ x = 0)))):=hx;clear hx b3 HT2;go_wp2;go_ret;refine ⟨x,rfl,.inr ⟨HX.out,?_⟩,HB.out⟩;have hr:=Ht.out.1 (by simp)
  rcases HXX.out with ⟨h1,h2⟩ | ⟨h1,⟨h2,h3⟩ | ⟨h2,h3⟩⟩
  · exact .inl ⟨fun h => h1 h.1,h2⟩
  · exact .inr ⟨⟨h1,hr⟩,.inl ⟨h2,h3⟩⟩
  · exact .inr ⟨⟨h1,hr⟩,.inr ⟨h2,h3⟩⟩
set_option maxHeartbeats 8000000 in
set_option maxRecDepth 20000 in
theorem l7Where_any (d:WorldD) (g r:Int) (cs:List Value) (hi:Nat) (w:World) (h:layWorld.rd w hi d cs) (hhi:hi ≤ w.heap.size) (hsz:szWorldD d ≤ 1048576) :
    Calls Tryz.prog 44 #[.agg cs.toArray,.int .i64 g,.int .i64 r] w (CodeP (WhereAns d g r) w):=by
  have h':=h;obtain ⟨ao1,cap1,ao2,cap2,ao3,cap3,rfl,g1,g2,g3,k0,k4,k5⟩:=World_rd h';have HRD:Hid (layWorld.rd w hi d [.int .i64 (d.shape 0),.int .i64 (d.shape 1),.int .i64 (d.shape 2),.int .i64 (d.shape 3),.int .i64 (d.shape 4),.int .i64 (d.shape 5),.int .i64 (d.shape 6),.int .i64 (d.shape 7),.int .i64 (d.shape 8),.slice ao1 d.groups.1 cap1,.slice ao2 d.on.1 cap2,.slice ao3 d.tapes.1 cap3,.int .i64 d.writes,.int .i64 d.stop,.bool d.down]):=h
  have HG2:Hid (RdI w hi (.slice ao2 d.on.1 cap2) d.on.1 d.on.2):=by
    obtain ⟨_,e2,⟨h2,_⟩,_⟩:=g2
    cases e2
    exact h2
  clear h h' g1 g2 g3 k0 k4 k5;have T0:=one_new w #[.int .i64 (d.shape 0),.int .i64 (d.shape 1),.int .i64 (d.shape 2),.int .i64 (d.shape 3),.int .i64 (d.shape 4),.int .i64 (d.shape 5),.int .i64 (d.shape 6),.int .i64 (d.shape 7),.int .i64 (d.shape 8),.slice ao1 d.groups.1 cap1,.slice ao2 d.on.1 cap2,.slice ao3 d.tapes.1 cap3,.int .i64 d.writes,.int .i64 d.stop,.bool d.down] 37;have HSZ:Hid (szWorldD d ≤ 1048576):=hsz;clear hsz
  go_enter Tryz.func44,Tryz.ntmps44
  go_wp2_with (refine wp_loadBox 37 (.tmp 3) rfl rfl (w.heap.size) rfl (cs:=[.int .i64 (d.shape 0),.int .i64 (d.shape 1),.int .i64 (d.shape 2),.int .i64 (d.shape 3),.int .i64 (d.shape 4),.int .i64 (d.shape 5),.int .i64 (d.shape 6),.int .i64 (d.shape 7),.int .i64 (d.shape 8),.slice ao1 d.groups.1 cap1,.slice ao2 d.on.1 cap2,.slice ao3 d.tapes.1 cap3,.int .i64 d.writes,.int .i64 d.stop,.bool d.down]) (T0.b1) Tryz.underlying37 size_W rfl ?_)
  refine (l5Asked_any d _ hi _ (layWorld.rd_below HRD.out T0.bel hhi) (Nat.le_trans hhi T0.bel.size) HSZ.out).mono ?_;rintro e w1 ⟨x,rfl,hx,b1⟩;have HT1:Hid (One w w1 #[.int .i64 (d.shape 0),.int .i64 (d.shape 1),.int .i64 (d.shape 2),.int .i64 (d.shape 3),.int .i64 (d.shape 4),.int .i64 (d.shape 5),.int .i64 (d.shape 6),.int .i64 (d.shape 7),.int .i64 (d.shape 8),.slice ao1 d.groups.1 cap1,.slice ao2 d.on.1 cap2,.slice ao3 d.tapes.1 cap3,.int .i64 d.writes,.int .i64 d.stop,.bool d.down] 37):=T0.call b1;have HX:Hid (AskAns d x):=hx;clear b1 T0 hx
  by_cases hx0:x = 0
  case neg =>
    have hne:(x != 0) = true:=by simp [hx0]
    go_wp2;go_ret;exact ⟨x,rfl,.inl ⟨hx0,HX.out⟩,HT1.out.bel⟩
  subst hx0;have HOK:Hid (OkWorld d):=ask_ok HX.out;have x_0:w1.cell? ⟨w.heap.size,0,none⟩ = some (.int .i64 (d.shape 0)):=HT1.out.b1.cell 0;have x_1:w1.cell? ⟨w.heap.size,1,none⟩ = some (.int .i64 (d.shape 1)):=HT1.out.b1.cell 1;have x_2:w1.cell? ⟨w.heap.size,2,none⟩ = some (.int .i64 (d.shape 2)):=HT1.out.b1.cell 2;have x_3:w1.cell? ⟨w.heap.size,3,none⟩ = some (.int .i64 (d.shape 3)):=HT1.out.b1.cell 3;have x_4:w1.cell? ⟨w.heap.size,4,none⟩ = some (.int .i64 (d.shape 4)):=HT1.out.b1.cell 4;have x_5:w1.cell? ⟨w.heap.size,5,none⟩ = some (.int .i64 (d.shape 5)):=HT1.out.b1.cell 5;have x_6:w1.cell? ⟨w.heap.size,6,none⟩ = some (.int .i64 (d.shape 6)):=HT1.out.b1.cell 6;have x_7:w1.cell? ⟨w.heap.size,7,none⟩ = some (.int .i64 (d.shape 7)):=HT1.out.b1.cell 7;have x_8:w1.cell? ⟨w.heap.size,8,none⟩ = some (.int .i64 (d.shape 8)):=HT1.out.b1.cell 8;have CP:=l5Place_any d.shape HOK.out.shape g 0 r w1;unfold shapeV at CP
  go_wp2_with fail
  refine CP.mono ?_;rintro e w2 ⟨t,rfl,ht,b2⟩;have Ht:Hid (t = true ↔ WhP d.shape g r):=ht.trans (place_wh HOK.out.shape g r);have HT2:Hid (One w w2 #[.int .i64 (d.shape 0),.int .i64 (d.shape 1),.int .i64 (d.shape 2),.int .i64 (d.shape 3),.int .i64 (d.shape 4),.int .i64 (d.shape 5),.int .i64 (d.shape 6),.int .i64 (d.shape 7),.int .i64 (d.shape 8),.slice ao1 d.groups.1 cap1,.slice ao2 d.on.1 cap2,.slice ao3 d.tapes.1 cap3,.int .i64 d.writes,.int .i64 d.stop,.bool d.down] 37):=HT1.out.call b2;clear CP b2 ht HT1 x_0 x_1 x_2 x_3 x_4 x_5 x_6 x_7 x_8
  cases t with
  | false =>
    go_wp2;go_ret;exact ⟨3,rfl,.inr ⟨HX.out,.inl ⟨fun h => (by have:=Ht.out.2 h;cases this),rfl⟩⟩,HT2.out.bel⟩
  | true =>
  have x10:w2.cell? ⟨w.heap.size,10,none⟩ = some (.slice ao2 d.on.1 cap2):=HT2.out.b1.cell 10;have CH:=l1Has_any _ _ _ hi g w2 (HG2.out.below HT2.out.bel hhi)
  go_wp2_with fail
  refine CH.mono ?_;rintro e w3 ⟨t,rfl,ht,b3⟩;have HB:Hid (Below w.heap.size w w3):=(HT2.out.call b3).bel;have HH:Hid (t = true ↔ HasP d.on.1 d.on.2 g):=ht;clear ht b3 HT2 CH x10
  cases t with
  | false =>
    go_wp2;go_ret;exact ⟨8,rfl,.inr ⟨HX.out,.inr ⟨Ht.out.1 (by simp),.inl ⟨fun h => (by have:=HH.out.2 h;cases this),rfl⟩⟩⟩,HB.out⟩
  | true =>
    go_wp2;go_ret;exact ⟨0,rfl,.inr ⟨HX.out,.inr ⟨Ht.out.1 (by simp),.inr ⟨HH.out.1 (by simp),rfl⟩⟩⟩,HB.out⟩
end Go.Proofs.YtbjblbbbafiepaaGreat
namespace Go.Proofs.YtbjblbbbafiepaaGreat
open Go.RowKit F256
theorem size_Ir:(Tryz.prog.info? 45).map (·.size) = some 2:=by kernel_rfl
theorem two_one (a b:Int):∀ v,v ∈ ([.int .i64 a,.int .i64 b]:List Value) → v.oneCell' = true:=fun v hv => by
  simp only [List.mem_cons,List.not_mem_nil,or_false] at hv
  rcases hv with rfl | rfl <;> rfl
theorem wh_at {d:WorldD} (h:OkWorld d) {g r:Int} (hp:WhP d.shape g r):∃ G R:Nat,g = (G:Int) ∧ r = (R:Int) ∧ G < d.groups.1 ∧ ∀ k,k < (d.groups.2 G).1 → R < ((d.groups.2 G).2 k).blocks.1:=by
  obtain ⟨hA,hC⟩:=hp;have hf:=h.form.1;unfold InP at hA hC;obtain ⟨G,rfl⟩:∃ G:Nat,g = (G:Int):=⟨g.toNat,by omega⟩;obtain ⟨R,rfl⟩:∃ R:Nat,r = (R:Int):=⟨r.toNat,by omega⟩
  have hG:G < d.groups.1:=by have:=hf.1;omega
  exact ⟨G,R,rfl,rfl,hG,fun k hk => by have:=((hf.2 G hG).2 k hk).1;omega⟩
theorem where_zero {d:WorldD} {g r:Int} (h:WhereAns d g r 0):AskAns d 0 ∧ WhP d.shape g r:=by
  rcases h with ⟨h,_⟩ | ⟨h1,⟨_,h⟩ | ⟨h2,_⟩⟩
  · exact absurd rfl h
  · cases h
  · exact ⟨h1,h2⟩
def StampAns (d:WorldD) (g r c v:Int):Prop:=(c ≠ 0 ∧ WhereAns d g r c ∧ v = 0) ∨ (WhereAns d g r 0 ∧ c = 0 ∧ v = stampN (d.groups.2 g.toNat).2 r.toNat (d.groups.2 g.toNat).1)
theorem StampAns.one {d:WorldD} {g r c v c' v':Int} (h:StampAns d g r c v) (k:StampAns d g r c' v'):c = c' ∧ v = v':=by
  rcases h with ⟨h1,h2,rfl⟩ | ⟨h1,rfl,rfl⟩ <;> rcases k with ⟨k1,k2,rfl⟩ | ⟨k1,rfl,rfl⟩
  · exact ⟨h2.one k2,rfl⟩
  · exact absurd (h2.one k1) h1
  · exact absurd (k2.one h1) k1
  · exact ⟨rfl,rfl⟩
set_option maxHeartbeats 8000000 in
set_option maxRecDepth 20000 in
theorem implStamp_any (d:WorldD) (g r:Int) (cs:List Value) (hi:Nat) (w:World) (h:layWorld.rd w hi d cs) (hhi:hi ≤ w.heap.size) (hsz:szWorldD d ≤ 1048576) :
    Calls Tryz.prog 16 #[.agg cs.toArray,.int .i64 g,.int .i64 r] w fun e w' => ∃ c v,e = .returned (.agg #[.int .i64 c,.int .i64 v]) ∧ StampAns d g r c v ∧ Below w.heap.size w w':=by
  have h':=h;obtain ⟨ao1,cap1,ao2,cap2,ao3,cap3,rfl,g1,g2,g3,k0,k4,k5⟩:=World_rd h';have HRD:Hid (layWorld.rd w hi d [.int .i64 (d.shape 0),.int .i64 (d.shape 1),.int .i64 (d.shape 2),.int .i64 (d.shape 3),.int .i64 (d.shape 4),.int .i64 (d.shape 5),.int .i64 (d.shape 6),.int .i64 (d.shape 7),.int .i64 (d.shape 8),.slice ao1 d.groups.1 cap1,.slice ao2 d.on.1 cap2,.slice ao3 d.tapes.1 cap3,.int .i64 d.writes,.int .i64 d.stop,.bool d.down]):=h;clear h h' g1 g2 g3 k0 k4 k5;have T0:=two_newb w #[.int .i64 (d.shape 0),.int .i64 (d.shape 1),.int .i64 (d.shape 2),.int .i64 (d.shape 3),.int .i64 (d.shape 4),.int .i64 (d.shape 5),.int .i64 (d.shape 6),.int .i64 (d.shape 7),.int .i64 (d.shape 8),.slice ao1 d.groups.1 cap1,.slice ao2 d.on.1 cap2,.slice ao3 d.tapes.1 cap3,.int .i64 d.writes,.int .i64 d.stop,.bool d.down] #[.int .i64 0,.int .i64 0] 37 45
  go_enter Tryz.func16,Tryz.ntmps16
  go_wp2_with (refine wp_loadBox 37 (.tmp 3) rfl rfl (w.heap.size) rfl (cs:=[.int .i64 (d.shape 0),.int .i64 (d.shape 1),.int .i64 (d.shape 2),.int .i64 (d.shape 3),.int .i64 (d.shape 4),.int .i64 (d.shape 5),.int .i64 (d.shape 6),.int .i64 (d.shape 7),.int .i64 (d.shape 8),.slice ao1 d.groups.1 cap1,.slice ao2 d.on.1 cap2,.slice ao3 d.tapes.1 cap3,.int .i64 d.writes,.int .i64 d.stop,.bool d.down]) (T0.b1) Tryz.underlying37 size_W rfl ?_)
  refine (rowFault_any d g r _ hi _ (layWorld.rd_below HRD.out T0.bel hhi) (Nat.le_trans hhi T0.bel.size) hsz).mono ?_;rintro e w1 ⟨x,rfl,hx,b1⟩;have HT1:Hid (Two w w1 #[.int .i64 (d.shape 0),.int .i64 (d.shape 1),.int .i64 (d.shape 2),.int .i64 (d.shape 3),.int .i64 (d.shape 4),.int .i64 (d.shape 5),.int .i64 (d.shape 6),.int .i64 (d.shape 7),.int .i64 (d.shape 8),.slice ao1 d.groups.1 cap1,.slice ao2 d.on.1 cap2,.slice ao3 d.tapes.1 cap3,.int .i64 d.writes,.int .i64 d.stop,.bool d.down] #[.int .i64 0,.int .i64 0] 37 45):=T0.call b1;have HX:Hid (WhereAns d g r x):=hx;have z1:w.heap.size + 1 < w1.heap.size:=HT1.out.b2.lt;clear b1 T0 hx
  by_cases hx0:x = 0
  case neg =>
    have hne:(x != 0) = true:=by simp [hx0]
    go_wp2_with (refine wp_storeBox 45 _ _ rfl rfl (w.heap.size + 1) rfl (cs:=[.int .i64 x,.int .i64 0]) (old:=[.int .i64 0,.int .i64 0]) rfl (HT1.out.b2) size_Ir rfl rfl (two_one _ _) ?_;intro w9 X9 C9 z9)
    refine ret_box Tryz.results16 rfl X9 Tryz.underlying45 size_Ir rfl rfl ?_;exact ⟨x,0,rfl,.inl ⟨hx0,HX.out,rfl⟩,HT1.out.bel.trans (C9.bel (fun b hb => by simp at hb;omega) HT1.out.bel.size)⟩
  subst hx0;obtain ⟨ha,hw⟩:=where_zero HX.out;obtain ⟨G,R,rfl,rfl,hG,hR⟩:=wh_at (ask_ok ha) hw;clear ha hw;have CS:=stampInRow_any d [.int .i64 (d.shape 0),.int .i64 (d.shape 1),.int .i64 (d.shape 2),.int .i64 (d.shape 3),.int .i64 (d.shape 4),.int .i64 (d.shape 5),.int .i64 (d.shape 6),.int .i64 (d.shape 7),.int .i64 (d.shape 8),.slice ao1 d.groups.1 cap1,.slice ao2 d.on.1 cap2,.slice ao3 d.tapes.1 cap3,.int .i64 d.writes,.int .i64 d.stop,.bool d.down] hi G R w1 (layWorld.rd_below HRD.out HT1.out.bel hhi) (Nat.le_trans hhi HT1.out.bel.size) hG hR;obtain ⟨z,hz⟩:∃ z,z = stampN (d.groups.2 G).2 R (d.groups.2 G).1:=⟨_,rfl⟩;have HZ:Hid (z = stampN (d.groups.2 G).2 R (d.groups.2 G).1):=hz;rw [← hz] at CS;clear hz hR
  go_wp2_with (first | (refine wp_loadBox 37 (.tmp 3) rfl rfl (w.heap.size) rfl (cs:=[.int .i64 (d.shape 0),.int .i64 (d.shape 1),.int .i64 (d.shape 2),.int .i64 (d.shape 3),.int .i64 (d.shape 4),.int .i64 (d.shape 5),.int .i64 (d.shape 6),.int .i64 (d.shape 7),.int .i64 (d.shape 8),.slice ao1 d.groups.1 cap1,.slice ao2 d.on.1 cap2,.slice ao3 d.tapes.1 cap3,.int .i64 d.writes,.int .i64 d.stop,.bool d.down]) (HT1.out.b1) Tryz.underlying37 size_W rfl ?_) | (go_at_call 47;refine CS.mono ?_;rintro e w2 ⟨rfl,b2⟩;have T2:=HT1.out.call b2) | (refine wp_storeBox 45 _ _ rfl rfl (w.heap.size + 1) rfl (cs:=[.int .i64 0,.int .i64 z]) (old:=[.int .i64 0,.int .i64 0]) rfl (T2.b2) size_Ir rfl rfl (two_one _ _) ?_;intro w9 X9 C9 z9))
  refine ret_box Tryz.results16 rfl X9 Tryz.underlying45 size_Ir rfl rfl ?_;exact ⟨0,z,rfl,.inr ⟨HX.out,rfl,HZ.out⟩,T2.bel.trans (C9.bel (fun b hb => by simp at hb;omega) T2.bel.size)⟩
set_option maxHeartbeats 8000000 in
set_option maxRecDepth 20000 in
theorem specStamp_any (d:WorldD) (g r:Int) (cs:List Value) (hi:Nat) (w:World) (h:layWorld.rd w hi d cs) (hhi:hi ≤ w.heap.size) (hsz:szWorldD d ≤ 1048576) :
    Calls Tryz.prog 15 #[.agg cs.toArray,.int .i64 g,.int .i64 r] w fun e w' => ∃ c v,e = .returned (.agg #[.int .i64 c,.int .i64 v]) ∧ StampAns d g r c v ∧ Below w.heap.size w w':=by
  have h':=h;obtain ⟨ao1,cap1,ao2,cap2,ao3,cap3,rfl,g1,g2,g3,k0,k4,k5⟩:=World_rd h';have HRD:Hid (layWorld.rd w hi d [.int .i64 (d.shape 0),.int .i64 (d.shape 1),.int .i64 (d.shape 2),.int .i64 (d.shape 3),.int .i64 (d.shape 4),.int .i64 (d.shape 5),.int .i64 (d.shape 6),.int .i64 (d.shape 7),.int .i64 (d.shape 8),.slice ao1 d.groups.1 cap1,.slice ao2 d.on.1 cap2,.slice ao3 d.tapes.1 cap3,.int .i64 d.writes,.int .i64 d.stop,.bool d.down]):=h;clear h h' g1 g2 g3 k0 k4 k5;have T0:=two_newb w #[.int .i64 (d.shape 0),.int .i64 (d.shape 1),.int .i64 (d.shape 2),.int .i64 (d.shape 3),.int .i64 (d.shape 4),.int .i64 (d.shape 5),.int .i64 (d.shape 6),.int .i64 (d.shape 7),.int .i64 (d.shape 8),.slice ao1 d.groups.1 cap1,.slice ao2 d.on.1 cap2,.slice ao3 d.tapes.1 cap3,.int .i64 d.writes,.int .i64 d.stop,.bool d.down] #[.int .i64 0,.int .i64 0] 37 45
  go_enter Tryz.func15,Tryz.ntmps15
  go_wp2_with (refine wp_loadBox 37 (.tmp 3) rfl rfl (w.heap.size) rfl (cs:=[.int .i64 (d.shape 0),.int .i64 (d.shape 1),.int .i64 (d.shape 2),.int .i64 (d.shape 3),.int .i64 (d.shape 4),.int .i64 (d.shape 5),.int .i64 (d.shape 6),.int .i64 (d.shape 7),.int .i64 (d.shape 8),.slice ao1 d.groups.1 cap1,.slice ao2 d.on.1 cap2,.slice ao3 d.tapes.1 cap3,.int .i64 d.writes,.int .i64 d.stop,.bool d.down]) (T0.b1) Tryz.underlying37 size_W rfl ?_)
  refine (l7Where_any d g r _ hi _ (layWorld.rd_below HRD.out T0.bel hhi) (Nat.le_trans hhi T0.bel.size) hsz).mono ?_;rintro e w1 ⟨x,rfl,hx,b1⟩;have HT1:Hid (Two w w1 #[.int .i64 (d.shape 0),.int .i64 (d.shape 1),.int .i64 (d.shape 2),.int .i64 (d.shape 3),.int .i64 (d.shape 4),.int .i64 (d.shape 5),.int .i64 (d.shape 6),.int .i64 (d.shape 7),.int .i64 (d.shape 8),.slice ao1 d.groups.1 cap1,.slice ao2 d.on.1 cap2,.slice ao3 d.tapes.1 cap3,.int .i64 d.writes,.int .i64 d.stop,.bool d.down] #[.int .i64 0,.int .i64 0] 37 45):=T0.call b1;have HX:Hid (WhereAns d g r x):=hx;have z1:w.heap.size + 1 < w1.heap.size:=HT1.out.b2.lt;clear b1 T0 hx
  by_cases hx0:x = 0
  case neg =>
    have hne:(x != 0) = true:=by simp [hx0]
    go_wp2_with (refine wp_storeBox 45 _ _ rfl rfl (w.heap.size + 1) rfl (cs:=[.int .i64 x,.int .i64 0]) (old:=[.int .i64 0,.int .i64 0]) rfl (HT1.out.b2) size_Ir rfl rfl (two_one _ _) ?_;intro w9 X9 C9 z9)
    refine ret_box Tryz.results15 rfl X9 Tryz.underlying45 size_Ir rfl rfl ?_;exact ⟨x,0,rfl,.inl ⟨hx0,HX.out,rfl⟩,HT1.out.bel.trans (C9.bel (fun b hb => by simp at hb;omega) HT1.out.bel.size)⟩
  subst hx0;obtain ⟨ha,hw⟩:=where_zero HX.out;obtain ⟨G,R,rfl,rfl,hG,hR⟩:=wh_at (ask_ok ha) hw;clear ha hw;have CS:=l7Stamp_any d [.int .i64 (d.shape 0),.int .i64 (d.shape 1),.int .i64 (d.shape 2),.int .i64 (d.shape 3),.int .i64 (d.shape 4),.int .i64 (d.shape 5),.int .i64 (d.shape 6),.int .i64 (d.shape 7),.int .i64 (d.shape 8),.slice ao1 d.groups.1 cap1,.slice ao2 d.on.1 cap2,.slice ao3 d.tapes.1 cap3,.int .i64 d.writes,.int .i64 d.stop,.bool d.down] hi w.heap.size G R w1 (layWorld.rd_below HRD.out HT1.out.bel hhi) (Nat.le_trans hhi HT1.out.bel.size) HT1.out.b1 hG hR;obtain ⟨z,hz⟩:∃ z,z = stampN (d.groups.2 G).2 R (d.groups.2 G).1:=⟨_,rfl⟩;have HZ:Hid (z = stampN (d.groups.2 G).2 R (d.groups.2 G).1):=hz;rw [← hz] at CS;clear hz hR
  go_wp2_with (first | (go_at_call 45;refine CS.mono ?_;rintro e w2 ⟨rfl,e2⟩;obtain rfl:=e2.symm) | (refine wp_storeBox 45 _ _ rfl rfl (w.heap.size + 1) rfl (cs:=[.int .i64 0,.int .i64 z]) (old:=[.int .i64 0,.int .i64 0]) rfl (HT1.out.b2) size_Ir rfl rfl (two_one _ _) ?_;intro w9 X9 C9 z9))
  refine ret_box Tryz.results15 rfl X9 Tryz.underlying45 size_Ir rfl rfl ?_;exact ⟨0,z,rfl,.inr ⟨HX.out,rfl,HZ.out⟩,HT1.out.bel.trans (C9.bel (fun b hb => by simp at hb;omega) HT1.out.bel.size)⟩
end Go.Proofs.YtbjblbbbafiepaaGreat
namespace Go.Proofs.YtbjblbbbafiepaaGreat
open Go.ChangeShapes Go.WideShapes Go.ChangeAt Go.RowKit F256
theorem stamp_ex (d:WorldD) (g r:Int):∃ c v,StampAns d g r c v:=by
  obtain ⟨x,hx⟩:=world_ex d
  have ha:∃ x,AskAns d x:=by
    by_cases h:x = 0
    · subst h
      cases hd:d.down with
      | true => exact ⟨9,.inr ⟨hx,.inl ⟨hd,rfl⟩⟩⟩
      | false => exact ⟨0,.inr ⟨hx,.inr ⟨hd,rfl⟩⟩⟩
    · exact ⟨x,.inl ⟨h,hx⟩⟩
  obtain ⟨y,hy⟩:=ha
  have hw:∃ z,WhereAns d g r z:=by
    by_cases h:y = 0
    · subst h
      by_cases h1:WhP d.shape g r
      · by_cases h2:HasP d.on.1 d.on.2 g
        · exact ⟨0,.inr ⟨hy,.inr ⟨h1,.inr ⟨h2,rfl⟩⟩⟩⟩
        · exact ⟨8,.inr ⟨hy,.inr ⟨h1,.inl ⟨h2,rfl⟩⟩⟩⟩
      · exact ⟨3,.inr ⟨hy,.inl ⟨h1,rfl⟩⟩⟩
    · exact ⟨y,.inl ⟨h,hy⟩⟩
  obtain ⟨z,hz⟩:=hw
  by_cases h:z = 0
  · subst h;exact ⟨0,_,.inr ⟨hz,rfl,rfl⟩⟩
  · exact ⟨z,0,.inl ⟨h,hz,rfl⟩⟩
theorem stamp_det {d:WorldD} {g r c v:Int} {w:World} {f:Nat} {args:Array Value} (hq:StampAns d g r c v) (h:Calls Tryz.prog f args w fun e w' => ∃ c v,e = .returned (.agg #[.int .i64 c,.int .i64 v]) ∧ StampAns d g r c v ∧ Below w.heap.size w w'):Calls Tryz.prog f args w fun e w' => e = .returned (.agg #[.int .i64 c,.int .i64 v]) ∧ Below w.heap.size w w' :=
  h.mono fun e w' ⟨c',v',h1,h2,h3⟩ => ⟨by rw [h1,(hq.one h2).1,(hq.one h2).2],h3⟩
theorem info_Ir:(Tryz.prog.info? 45).map (fun i => (i.zero.map (·.cells),i.size)) = some (some #[.int .i64 0,.int .i64 0],2):=by kernel_rfl
set_option maxHeartbeats 16000000 in
set_option maxRecDepth 20000 in
theorem fnExactRowStamp_walk (d:WorldD) (cs:List Value) (i0:Int) (i1:Int) (w:World) (rd0:layWorld.rd w w.heap.size d cs) (hi0:-9223372036854775808 ≤ i0 ∧ i0 ≤ 9223372036854775807) (hi1:-9223372036854775808 ≤ i1 ∧ i1 ≤ 9223372036854775807) :
    Calls Tryz.prog 4 #[.agg cs.toArray,.int .i64 i0,.int .i64 i1] w fun e w' => e = .returned (.bool true) ∧ Below w.heap.size w w':=by
  obtain ⟨v0,v1,v2,v3,v4,v5,v6,v7,v8,vp0,vl0,vq0,vp1,vl1,vq1,vp2,vl2,vq2,v9,v10,vb,rfl⟩:=world15 rd0;have HR:Hid (layWorld.rd w w.heap.size d [.int .i64 v0,.int .i64 v1,.int .i64 v2,.int .i64 v3,.int .i64 v4,.int .i64 v5,.int .i64 v6,.int .i64 v7,.int .i64 v8,.slice vp0 vl0 vq0,.slice vp1 vl1 vq1,.slice vp2 vl2 vq2,.int .i64 v9,.int .i64 v10,.bool vb]):=rd0;clear rd0 hi0 hi1;have T0:=one_new w #[.int .i64 v0,.int .i64 v1,.int .i64 v2,.int .i64 v3,.int .i64 v4,.int .i64 v5,.int .i64 v6,.int .i64 v7,.int .i64 v8,.slice vp0 vl0 vq0,.slice vp1 vl1 vq1,.slice vp2 vl2 vq2,.int .i64 v9,.int .i64 v10,.bool vb] 28
  go_enter Tryz.func4,Tryz.ntmps4
  go_wp2_with (refine wp_loadBox 28 (.tmp 3) rfl rfl (w.heap.size) rfl (cs:=[.int .i64 v0,.int .i64 v1,.int .i64 v2,.int .i64 v3,.int .i64 v4,.int .i64 v5,.int .i64 v6,.int .i64 v7,.int .i64 v8,.slice vp0 vl0 vq0,.slice vp1 vl1 vq1,.slice vp2 vl2 vq2,.int .i64 v9,.int .i64 v10,.bool vb]) T0.b1 Tryz.underlying28 size_LW rfl ?_)
  refine (szWorld_is _ d w.heap.size 1048576 _ (layWorld.rd_below HR.out T0.bel (Nat.le_refl _)) T0.bel.size (by omega)).mono ?_;rintro e w1 ⟨x,rfl,hx,b1⟩;have T1:=T0.call b1;have HT1:Hid (One w w1 #[.int .i64 v0,.int .i64 v1,.int .i64 v2,.int .i64 v3,.int .i64 v4,.int .i64 v5,.int .i64 v6,.int .i64 v7,.int .i64 v8,.slice vp0 vl0 vq0,.slice vp1 vl1 vq1,.slice vp2 vl2 vq2,.int .i64 v9,.int .i64 v10,.bool vb] 28):=T1;clear b1 T0
  rcases hx with rfl | ⟨hsz,hx⟩
  · clear T1
    go_wp2;go_ret;exact ⟨rfl,HT1.out.bel⟩
  have hx0:¬ x < 0:=by omega
  clear hx;obtain ⟨cc,vv,hq⟩:=stamp_ex d i0 i1
  have CT:∀ w',Below w1.heap.size w1 w' → Calls Tryz.prog 8 #[.agg #[.int .i64 v0,.int .i64 v1,.int .i64 v2,.int .i64 v3,.int .i64 v4,.int .i64 v5,.int .i64 v6,.int .i64 v7,.int .i64 v8,.slice vp0 vl0 vq0,.slice vp1 vl1 vq1,.slice vp2 vl2 vq2,.int .i64 v9,.int .i64 v10,.bool vb]] w' fun e w'' => ∃ cs',e = .returned (.agg cs'.toArray) ∧ OwnT layWorld w'' w'.heap.size w''.heap.size d cs' ∧ Below w'.heap.size w' w'':=fun w' hb =>
    toWorld_is _ d w.heap.size w' (layWorld.rd_below (layWorld.rd_below HR.out HT1.out.bel (Nat.le_refl _)) hb HT1.out.bel.size) (Nat.le_trans HT1.out.bel.size hb.size) hsz
  have CS:=fun (cs':List Value) (hi:Nat) (w':World) (h1:layWorld.rd w' hi d cs') (h2:hi ≤ w'.heap.size) => stamp_det hq (specStamp_any d i0 i1 cs' hi w' h1 h2 hsz);have CI:=fun (cs':List Value) (hi:Nat) (w':World) (h1:layWorld.rd w' hi d cs') (h2:hi ≤ w'.heap.size) => stamp_det hq (implStamp_any d i0 i1 cs' hi w' h1 h2 hsz);have CE:=fun w' => eqInt_same cc vv w';unfold intR at CE;have CW:=fun c1 c2 h1 h2 w' => eqWorld_is c1 c2 d h1 h2 w';clear hq hsz
  go_wp2_with (refine wp_loadBox 28 (.tmp 3) rfl rfl (w.heap.size) rfl (cs:=[.int .i64 v0,.int .i64 v1,.int .i64 v2,.int .i64 v3,.int .i64 v4,.int .i64 v5,.int .i64 v6,.int .i64 v7,.int .i64 v8,.slice vp0 vl0 vq0,.slice vp1 vl1 vq1,.slice vp2 vl2 vq2,.int .i64 v9,.int .i64 v10,.bool vb]) T1.b1 Tryz.underlying28 size_LW rfl ?_)
  refine (CT _ (Below.refl _ _)).mono ?_;rintro e w2 ⟨c2,rfl,o2,b2⟩;have z1:w.heap.size < w1.heap.size:=T1.b1.lt;clear T1
  go_wp2_with fail
  refine (CS _ _ _ o2.rd (Nat.le_refl _)).mono ?_;rintro e w3 ⟨rfl,b3⟩;have z2:w1.heap.size ≤ w2.heap.size:=b2.size;have z3:w2.heap.size ≤ w3.heap.size:=b3.size;have B3:Below w1.heap.size w1 w3:=b2.trans (b3.mono b2.size);clear o2 b2 b3
  go_upto_region 6 with (refine wp_allocStore 45 8 (.tmp 20) [.int .i64 cc,.int .i64 vv] _ 2 rfl rfl rfl rfl rfl rfl rfl rfl info_Ir rfl rfl (two_one _ _) ?_)
  have bA:Below w3.heap.size w3 (w3.alloc (.cells #[.int .i64 cc,.int .i64 vv] 45)):=(Below.refl _ _).alloc (Nat.le_refl _) _;have S4:Box (w3.alloc (.cells #[.int .i64 cc,.int .i64 vv] 45)) w3.heap.size #[.int .i64 cc,.int .i64 vv] 45:=box_new _ _ _;obtain ⟨W4,hW4⟩:∃ x,x = w3.alloc (.cells #[.int .i64 cc,.int .i64 vv] 45):=⟨_,rfl⟩;rw [← hW4] at bA S4 ⊢;have B4:=B3.trans (bA.mono (by omega));have P4:=HT1.out.call B4;have z4:w3.heap.size < W4.heap.size:=S4.lt;clear bA hW4 B3
  go_wp2_with (refine wp_loadBox 28 (.tmp 3) rfl rfl (w.heap.size) rfl (cs:=[.int .i64 v0,.int .i64 v1,.int .i64 v2,.int .i64 v3,.int .i64 v4,.int .i64 v5,.int .i64 v6,.int .i64 v7,.int .i64 v8,.slice vp0 vl0 vq0,.slice vp1 vl1 vq1,.slice vp2 vl2 vq2,.int .i64 v9,.int .i64 v10,.bool vb]) P4.b1 Tryz.underlying28 size_LW rfl ?_)
  refine (CT _ B4).mono ?_;rintro e w5 ⟨cX,rfl,oX,b5⟩;obtain ⟨x0,x1,x2,x3,x4,x5,x6,x7,x8,xp0,xl0,xq0,xp1,xl1,xq1,xp2,xl2,xq2,x9,x10,xb,rfl⟩:=world15O oX;have z5:W4.heap.size ≤ w5.heap.size:=b5.size;have B5:=B4.trans (b5.mono (by omega));have S5:=S4.call b5;clear P4 b5 B4 S4
  go_upto_region 7 with (refine wp_allocStore 37 9 (.tmp 22) [.int .i64 x0,.int .i64 x1,.int .i64 x2,.int .i64 x3,.int .i64 x4,.int .i64 x5,.int .i64 x6,.int .i64 x7,.int .i64 x8,.slice xp0 xl0 xq0,.slice xp1 xl1 xq1,.slice xp2 xl2 xq2,.int .i64 x9,.int .i64 x10,.bool xb] _ 15 rfl rfl rfl rfl rfl rfl rfl rfl info_W rfl rfl oX.one ?_)
  have bA:Below w5.heap.size w5 (w5.alloc (.cells #[.int .i64 x0,.int .i64 x1,.int .i64 x2,.int .i64 x3,.int .i64 x4,.int .i64 x5,.int .i64 x6,.int .i64 x7,.int .i64 x8,.slice xp0 xl0 xq0,.slice xp1 xl1 xq1,.slice xp2 xl2 xq2,.int .i64 x9,.int .i64 x10,.bool xb] 37)):=(Below.refl _ _).alloc (Nat.le_refl _) _;have X6:Box (w5.alloc (.cells #[.int .i64 x0,.int .i64 x1,.int .i64 x2,.int .i64 x3,.int .i64 x4,.int .i64 x5,.int .i64 x6,.int .i64 x7,.int .i64 x8,.slice xp0 xl0 xq0,.slice xp1 xl1 xq1,.slice xp2 xl2 xq2,.int .i64 x9,.int .i64 x10,.bool xb] 37)) w5.heap.size #[.int .i64 x0,.int .i64 x1,.int .i64 x2,.int .i64 x3,.int .i64 x4,.int .i64 x5,.int .i64 x6,.int .i64 x7,.int .i64 x8,.slice xp0 xl0 xq0,.slice xp1 xl1 xq1,.slice xp2 xl2 xq2,.int .i64 x9,.int .i64 x10,.bool xb] 37:=box_new _ _ _;obtain ⟨W6,hW6⟩:∃ x,x = w5.alloc (.cells #[.int .i64 x0,.int .i64 x1,.int .i64 x2,.int .i64 x3,.int .i64 x4,.int .i64 x5,.int .i64 x6,.int .i64 x7,.int .i64 x8,.slice xp0 xl0 xq0,.slice xp1 xl1 xq1,.slice xp2 xl2 xq2,.int .i64 x9,.int .i64 x10,.bool xb] 37):=⟨_,rfl⟩;rw [← hW6] at bA X6 ⊢;have B6:=B5.trans (bA.mono (by omega));have S6:=S5.call bA;have OX6:=oX.call bA;have z6:w5.heap.size < W6.heap.size:=X6.lt;clear bA hW6 oX B5 S5
  go_wp2_with (refine wp_loadBox 37 (.tmp 9) rfl rfl (w5.heap.size) rfl (cs:=[.int .i64 x0,.int .i64 x1,.int .i64 x2,.int .i64 x3,.int .i64 x4,.int .i64 x5,.int .i64 x6,.int .i64 x7,.int .i64 x8,.slice xp0 xl0 xq0,.slice xp1 xl1 xq1,.slice xp2 xl2 xq2,.int .i64 x9,.int .i64 x10,.bool xb]) X6 Tryz.underlying37 size_W rfl ?_)
  refine (CI _ _ _ OX6.rd (by omega)).mono ?_;rintro e w7 ⟨rfl,b7⟩;have z7:W6.heap.size ≤ w7.heap.size:=b7.size;have B7:=B6.trans (b7.mono (by omega));have S7:=S6.call b7;have X7:=X6.call b7;have OX7:=OX6.call b7;clear b7 B6 S6 X6 OX6
  go_upto_region 8 with (refine wp_allocStore 45 10 (.tmp 26) [.int .i64 cc,.int .i64 vv] _ 2 rfl rfl rfl rfl rfl rfl rfl rfl info_Ir rfl rfl (two_one _ _) ?_)
  have bA:Below w7.heap.size w7 (w7.alloc (.cells #[.int .i64 cc,.int .i64 vv] 45)):=(Below.refl _ _).alloc (Nat.le_refl _) _;have G8:Box (w7.alloc (.cells #[.int .i64 cc,.int .i64 vv] 45)) w7.heap.size #[.int .i64 cc,.int .i64 vv] 45:=box_new _ _ _;obtain ⟨W8,hW8⟩:∃ x,x = w7.alloc (.cells #[.int .i64 cc,.int .i64 vv] 45):=⟨_,rfl⟩;rw [← hW8] at bA G8 ⊢;have B8:=B7.trans (bA.mono (by omega));have S8:=S7.call bA;have X8:=X7.call bA;have OX8:=OX7.call bA;have z8:w7.heap.size < W8.heap.size:=G8.lt;clear bA hW8 B7 S7 X7 OX7
  go_wp2_with (first | (refine wp_loadBox 45 (.tmp 10) rfl rfl (w7.heap.size) rfl (cs:=[.int .i64 cc,.int .i64 vv]) G8 Tryz.underlying45 size_Ir rfl ?_) | (refine wp_loadBox 45 (.tmp 8) rfl rfl (w3.heap.size) rfl (cs:=[.int .i64 cc,.int .i64 vv]) S8 Tryz.underlying45 size_Ir rfl ?_))
  refine (CE _).mono ?_;rintro e w9 ⟨rfl,b9⟩;have z9:W8.heap.size ≤ w9.heap.size:=b9.size;have B9:=B8.trans (b9.mono (by omega));have X9:Hid (Box w9 w5.heap.size #[.int .i64 x0,.int .i64 x1,.int .i64 x2,.int .i64 x3,.int .i64 x4,.int .i64 x5,.int .i64 x6,.int .i64 x7,.int .i64 x8,.slice xp0 xl0 xq0,.slice xp1 xl1 xq1,.slice xp2 xl2 xq2,.int .i64 x9,.int .i64 x10,.bool xb] 37):=X8.call b9;have OX9:Hid (OwnT layWorld w9 W4.heap.size w5.heap.size d [.int .i64 x0,.int .i64 x1,.int .i64 x2,.int .i64 x3,.int .i64 x4,.int .i64 x5,.int .i64 x6,.int .i64 x7,.int .i64 x8,.slice xp0 xl0 xq0,.slice xp1 xl1 xq1,.slice xp2 xl2 xq2,.int .i64 x9,.int .i64 x10,.bool xb]):=OX8.call b9;have HB9:Hid (Below w1.heap.size w1 w9):=B9;have P9:Hid (One w w9 #[.int .i64 v0,.int .i64 v1,.int .i64 v2,.int .i64 v3,.int .i64 v4,.int .i64 v5,.int .i64 v6,.int .i64 v7,.int .i64 v8,.slice vp0 vl0 vq0,.slice vp1 vl1 vq1,.slice vp2 vl2 vq2,.int .i64 v9,.int .i64 v10,.bool vb] 28):=HT1.out.call B9;have CTc:=fun w' (hb:Below w9.heap.size w9 w') => CT w' (HB9.out.trans (hb.mono (by omega)));clear b9 B8 S8 X8 OX8 G8 B9
  go_upto_region 10 with fail
  go_cut [35] (fun v wx => v = .bool false ∧ Below w9.heap.size w9 wx)
  case first =>
    have KS:∀ w',Below w9.heap.size w9 w' → (Box w' (w5.heap.size) #[.int .i64 x0,.int .i64 x1,.int .i64 x2,.int .i64 x3,.int .i64 x4,.int .i64 x5,.int .i64 x6,.int .i64 x7,.int .i64 x8,.slice xp0 xl0 xq0,.slice xp1 xl1 xq1,.slice xp2 xl2 xq2,.int .i64 x9,.int .i64 x10,.bool xb] 37 ∧ Box w' (w.heap.size) #[.int .i64 v0,.int .i64 v1,.int .i64 v2,.int .i64 v3,.int .i64 v4,.int .i64 v5,.int .i64 v6,.int .i64 v7,.int .i64 v8,.slice vp0 vl0 vq0,.slice vp1 vl1 vq1,.slice vp2 vl2 vq2,.int .i64 v9,.int .i64 v10,.bool vb] 28):=fun w' hb => ⟨(X9.out).call hb,(P9.out.b1).call hb⟩;have B0:Below w9.heap.size w9 w9.drew:=below_drew _;refine wp_region_L 4 (fun w' => Box w' (w5.heap.size) #[.int .i64 x0,.int .i64 x1,.int .i64 x2,.int .i64 x3,.int .i64 x4,.int .i64 x5,.int .i64 x6,.int .i64 x7,.int .i64 x8,.slice xp0 xl0 xq0,.slice xp1 xl1 xq1,.slice xp2 xl2 xq2,.int .i64 x9,.int .i64 x10,.bool xb] 37 ∧ Box w' (w.heap.size) #[.int .i64 v0,.int .i64 v1,.int .i64 v2,.int .i64 v3,.int .i64 v4,.int .i64 v5,.int .i64 v6,.int .i64 v7,.int .i64 v8,.slice vp0 vl0 vq0,.slice vp1 vl1 vq1,.slice vp2 vl2 vq2,.int .i64 v9,.int .i64 v10,.bool vb] 28) (by kernel_rfl) (KS _ B0) (fun hHeld => ?_);refine wpAnyL_take (i:=0) (oi:=_) (v:=.agg #[.int .i64 x0,.int .i64 x1,.int .i64 x2,.int .i64 x3,.int .i64 x4,.int .i64 x5,.int .i64 x6,.int .i64 x7,.int .i64 x8,.slice xp0 xl0 xq0,.slice xp1 xl1 xq1,.slice xp2 xl2 xq2,.int .i64 x9,.int .i64 x10,.bool xb]) 16 rfl (by kernel_rfl) (fun _ _ _ h => h) (load_yield 37 (.tmp 9) rfl rfl (w5.heap.size) rfl (cs:=[.int .i64 x0,.int .i64 x1,.int .i64 x2,.int .i64 x3,.int .i64 x4,.int .i64 x5,.int .i64 x6,.int .i64 x7,.int .i64 x8,.slice xp0 xl0 xq0,.slice xp1 xl1 xq1,.slice xp2 xl2 xq2,.int .i64 x9,.int .i64 x10,.bool xb]) (fun w' h => h.1) Tryz.underlying37 size_W rfl) (by assumption) ?_
    try simp only [Act.put,SL]
    refine wpAnyL_take (i:=1) (oi:=_) (v:=.agg #[.int .i64 v0,.int .i64 v1,.int .i64 v2,.int .i64 v3,.int .i64 v4,.int .i64 v5,.int .i64 v6,.int .i64 v7,.int .i64 v8,.slice vp0 vl0 vq0,.slice vp1 vl1 vq1,.slice vp2 vl2 vq2,.int .i64 v9,.int .i64 v10,.bool vb]) 16 rfl (by kernel_rfl) (fun _ _ _ h => h) (load_yield 28 (.tmp 3) rfl rfl (w.heap.size) rfl (cs:=[.int .i64 v0,.int .i64 v1,.int .i64 v2,.int .i64 v3,.int .i64 v4,.int .i64 v5,.int .i64 v6,.int .i64 v7,.int .i64 v8,.slice vp0 vl0 vq0,.slice vp1 vl1 vq1,.slice vp2 vl2 vq2,.int .i64 v9,.int .i64 v10,.bool vb]) (fun w' h => h.2) Tryz.underlying28 size_LW rfl) (by assumption) ?_
    try simp only [Act.put,SL]
    refine wpAnyL_one (i:=2) (o:=_) rfl (by kernel_rfl) (fun KC hKC => ?_);refine step_call rfl 8 _ _ rfl #[.agg #[.int .i64 v0,.int .i64 v1,.int .i64 v2,.int .i64 v3,.int .i64 v4,.int .i64 v5,.int .i64 v6,.int .i64 v7,.int .i64 v8,.slice vp0 vl0 vq0,.slice vp1 vl1 vq1,.slice vp2 vl2 vq2,.int .i64 v9,.int .i64 v10,.bool vb]] ?_ Tryz.func8 (by kernel_rfl) (by kernel_rfl) (CTc _ B0) ?_
    · simp [Act.eval,Act.put]
    rintro ee wb ⟨cs',rfl,oR,bb⟩;have bR:Below w9.heap.size w9 wb:=B0.trans (bb.mono B0.size);refine ⟨_,rfl,?_⟩;refine hKC.out _ _ (KS _ bR) (fun hHeld => ?_);clear hKC KC
    try simp only [Act.put,SL]
    refine wpAnyL_one (i:=3) (o:=_) rfl (by kernel_rfl) (fun KC hKC => ?_);refine step_call rfl 11 _ _ rfl #[.agg #[.int .i64 x0,.int .i64 x1,.int .i64 x2,.int .i64 x3,.int .i64 x4,.int .i64 x5,.int .i64 x6,.int .i64 x7,.int .i64 x8,.slice xp0 xl0 xq0,.slice xp1 xl1 xq1,.slice xp2 xl2 xq2,.int .i64 x9,.int .i64 x10,.bool xb],.agg cs'.toArray] ?_ Tryz.func11 (by kernel_rfl) (by kernel_rfl) (CW _ _ _ _ _ ((OX9.out).call bR).rd oR.rd (Nat.le_trans (by omega) bR.size) (Nat.le_refl _)) ?_
    · simp [Act.eval,Act.put]
    rintro ee wc' ⟨rfl,bc⟩;have bC:Below w9.heap.size w9 wc':=bR.trans (bc.mono bR.size);refine ⟨_,rfl,?_⟩;refine hKC.out _ _ (KS _ bC) (fun hHeld => ?_);clear hKC KC
    try simp only [Act.put,SL]
    refine wpAnyL_last (o:=_) rfl (by kernel_rfl) (fun KC hKC => ?_);go_simp;refine hKC.out _ _ ?_;clear hKC KC
    try simp only [Act.put,SL]
    refine wpAnyL_done (by kernel_rfl) ?_ _;go_wp2
    go_meet
    exact ⟨rfl,bC⟩
  case rest =>
  obtain ⟨rfl,b10⟩:=hcut;have HB:Hid (Below w.heap.size w wc):=(P9.out.call b10).bel;clear b10 CTc;go_wp2;go_ret;exact ⟨rfl,HB.out⟩
set_option maxRecDepth 100000 in
theorem fnExactRowStamp_lifted (os:Os) (started:os.Started) (H:Type) (enc:TypeId × Value → H) :
    ReturnsInHanded {} Tryz.checked os 4 .any (Rows.fnExactRowStampSpec.pre6 enc Tryz.prog Tryz.f4 Rows.fnExactRowStampRow.domain false) (Rows.fnExactRowStampSpec.post enc Tryz.prog Tryz.f4 false true false false):=by
  refine returnsInHanded_of_change (C:=Tryz.checked) frame_own started (by kernel_rfl) Tryz.func4
    (ChangeSpec.witness6 (enc:=enc) (C:=Tryz.checked) false ⟨#[],#[.agg #[.int .i64 0,.int .i64 0,.int .i64 0,.int .i64 0,.int .i64 0,.int .i64 0,.int .i64 0,.int .i64 0,.int .i64 0,.slice none 0 0,.slice none 0 0,.slice none 0 0,.int .i64 0,.int .i64 0,.bool false],.int .i64 0,.int .i64 0],[]⟩ 8 (by kernel_rfl) (by kernel_rfl) (by kernel_rfl) (by kernel_rfl)) ?_
  intro W base args ds gs before hval0 hW hcnd _;have hval:∀ (j:Nat) t v,Tryz.f4.params[j]? = some t → args[j]? = some v → Value.okWide Tryz.prog W .any base t v:=hval0;have hW':=hW;obtain ⟨p,q,hA0,hV,rfl,hfz,hnd⟩:=hW;have hA:DataW.TrodAll enc Tryz.prog W 0 (fun _ => true) true Tryz.f4.params.toList args.toList ds p:=hA0;rw [Tryz.params4] at hA hval;obtain ⟨v0,vs0,d0,ds0,p0,q0,hargs,rfl,rfl,h0,r0⟩:=trodAll_cons hA;obtain ⟨v1,vs1,d1,ds1,p1,q1,rfl,rfl,rfl,h1,r1⟩:=trodAll_cons r0;obtain ⟨v2,vs2,d2,ds2,p2,q2,rfl,rfl,rfl,h2,r2⟩:=trodAll_cons r1;obtain ⟨rfl,rfl,rfl⟩:=trodAll_nil r2
  obtain rfl:args = #[v0,v1,v2]:=by cases args;simp_all
  obtain ⟨rfl,rfl⟩:=trodVars_none hV;have k0:=h0
  have lt0:∀ x ∈ p0,x.block < W.heap.size:=by obtain ⟨m,hm⟩:=k0;exact DataW.trod_lt m _ _ _ hm
  obtain ⟨cs0,a0,rfl,rd0⟩:=struct_of_trod opensWorld Tryz.underlying28 (hval 0 28 v0 rfl rfl) h0;obtain ⟨n1,rfl,rfl,rfl,hn1⟩:=open_int Tryz.underlying2 (hval 1 2 v1 rfl rfl) h1;obtain ⟨n2,rfl,rfl,rfl,hn2⟩:=open_int Tryz.underlying2 (hval 2 2 v2 rfl rfl) h2;clear hA0 hval0;refine (fnExactRowStamp_walk a0 cs0 n1 n2 W rd0 (bounds_i64 hn1) (bounds_i64 hn2)).mono fun e W' ⟨he,bel⟩ => ?_;subst he;exact ⟨_,rfl,_,_,_,[],_,[],hW',trodAll_mk1 (shut_bool Tryz.underlying4 _),(trodAll_cons_mk (Below.trod frame_laid (by kernel_rfl) (of_decide_eq_true (by kernel_rfl)) k0 bel lt0) (trodAll_cons_mk (shut_int Tryz.underlying2 hn1) (trodAll_cons_mk (shut_int Tryz.underlying2 hn2) trodAll_mk0))),rfl,bel.frame _,fun h => by cases h⟩
end Go.Proofs.YtbjblbbbafiepaaGreat