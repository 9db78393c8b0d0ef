/- The bytes of a row: walks of bytesInRow and l7Bytes. -/
import Derived.Test.YtclclojenogpbaaGreatZPdropian
set_option linter.unusedVariables false
set_option linter.unusedSimpArgs false
set_option maxHeartbeats 16000000
namespace Go.Proofs.YtclclojenogpbaaGreat
open Go.RowKit F256
def AskAns (d:WorldD) (x:Int):Prop:=(x≠0∧WldAns d x)∨(WldAns d 0∧((d.down=true∧x=9)∨(d.down=false∧x=0)))
theorem AskAns.one {d:WorldD} {x y:Int} (h:AskAns d x) (k:AskAns d y):x=y:=by
 rcases h with ⟨h1,h2⟩ | ⟨h1,h2⟩<;>rcases k with ⟨k1,k2⟩ | ⟨k1,k2⟩
 ·exact h2.one k2
 ·exact absurd (h2.one k1) h1
 ·exact absurd (k2.one h1) k1
 ·rcases h2 with ⟨a,rfl⟩ | ⟨a,rfl⟩<;>rcases k2 with ⟨b,rfl⟩ | ⟨b,rfl⟩
  ·rfl
  ·rw [a] at b;cases b
  ·rw [a] at b;cases b
  ·rfl
def zlB (P:Int→Prop) (w:World) (e:Ending) (w':World):Prop:=∃ x,e=.returned (.int .i64 x)∧P x∧Below w.heap.size w w'
set_option maxRecDepth 20000 in
theorem zi5 (d:WorldD) (cs:List Value) (hi:Nat) (w:World) (h:zad.rd w hi d cs) (hhi:hi≤w.heap.size) (hsz:zaS d≤1048576) :
 Calls Tryz.prog 28 #[.agg cs.toArray] w (zlB (AskAns d) w):=by
 have C:=fun w' hb=>zgT d cs hi w' (zad.rd_below h (B:=w.heap.size) hb hhi);obtain ⟨ao1,cap1,ao2,cap2,ao3,cap3,rfl,-⟩:=zaM h;have T0:=zaI w (rwW d ao1 cap1 ao2 cap2 ao3 cap3).toArray 38;clear h
 go_enter Tryz.func28,Tryz.ntmps28
 go_wp2_with (refine zai 38 (.tmp 1) rfl rfl w.heap.size rfl T0.b1 Tryz.underlying38 zbk rfl ?_)
 refine (C _ T0.bel (Nat.le_trans hhi T0.bel.size) (zdv hsz)).mono ?_;rintro e w1 ⟨x,rfl,hx,b1⟩;have T1:=T0.call b1;have HX:=hid hx;have HB:=hid T1.bel;have c14:w1.cell? ⟨w.heap.size,14,none⟩=some (.bool d.down):=T1.b1.cell 14;clear T0 T1 b1 C hx
 by_cases hx0:x=0
 ·subst hx0
  obtain ⟨dn,hdn⟩:∃ b,b=d.down:=⟨_,rfl⟩;rw [← hdn] at c14;have HD:=hid hdn;clear hdn
  cases dn with
  | true=>
   go_wp2;go_ret;exact ⟨9,rfl,.inr ⟨HX.out,.inl ⟨HD.out.symm,rfl⟩⟩,HB.out⟩
  | false=>
   go_wp2;go_ret;exact ⟨0,rfl,.inr ⟨HX.out,.inr ⟨HD.out.symm,rfl⟩⟩,HB.out⟩
 ·have hne:(x != 0)=true:=by simp [hx0]
  go_wp2;go_ret;exact ⟨x,rfl,.inl ⟨hx0,HX.out⟩,HB.out⟩
set_option maxRecDepth 20000 in
theorem zi6 (d:WorldD) (cs:List Value) (hi:Nat) (w:World) (h:zad.rd w hi d cs) (hhi:hi≤w.heap.size) (hsz:zaS d≤1048576) :
 Calls Tryz.prog 93 #[.agg cs.toArray] w (zlB (AskAns d) w):=by
 have C:=fun w' hb=>zee d cs hi w' (zad.rd_below h (B:=w.heap.size) hb hhi);obtain ⟨ao1,cap1,ao2,cap2,ao3,cap3,rfl,-⟩:=zaM h;have T0:=zaI w (rwW d ao1 cap1 ao2 cap2 ao3 cap3).toArray 38;clear h
 go_enter Tryz.func93,Tryz.ntmps93
 go_wp2_with (refine zai 38 (.tmp 1) rfl rfl w.heap.size rfl T0.b1 Tryz.underlying38 zbk rfl ?_)
 refine (C _ T0.bel (Nat.le_trans hhi T0.bel.size) (zdv hsz)).mono ?_;rintro e w1 ⟨x,rfl,hx,b1⟩;have T1:=T0.call b1;have HX:=hid hx;have HB:=hid T1.bel;have c14:w1.cell? ⟨w.heap.size,14,none⟩=some (.bool d.down):=T1.b1.cell 14;clear T0 T1 b1 C hx
 by_cases hx0:x=0
 ·subst hx0
  obtain ⟨dn,hdn⟩:∃ b,b=d.down:=⟨_,rfl⟩;rw [← hdn] at c14;have HD:=hid hdn;clear hdn
  cases dn with
  | true=>
   go_wp2;go_ret;exact ⟨9,rfl,.inr ⟨HX.out,.inl ⟨HD.out.symm,rfl⟩⟩,HB.out⟩
  | false=>
   go_wp2;go_ret;exact ⟨0,rfl,.inr ⟨HX.out,.inr ⟨HD.out.symm,rfl⟩⟩,HB.out⟩
 ·have hne:(x != 0)=true:=by simp [hx0]
  go_wp2;go_ret;exact ⟨x,rfl,.inl ⟨hx0,HX.out⟩,HB.out⟩
theorem zfz {d:WorldD} {x:Int} (h:AskAns d x):(-9223372036854775808≤x∧x≤9223372036854775807):=by
 rcases h with ⟨_,h⟩ | ⟨_,h | h⟩
 ·exact zfx h
 ·rw [h.2];decide
 ·rw [h.2];decide
theorem zmJ {d:WorldD} (h:AskAns d 0):OkWorld d:=by
 rcases h with ⟨h,_⟩ | ⟨h,_⟩
 ·exact absurd rfl h
 ·exact h.ok
def WhP (s:Nat→Int) (g r:Int):Prop:=InP g 0 (s 0+s 1-1)∧InP r 0 (s 4-1)
def zmq (d:WorldD) (g r x:Int):Prop:=(x≠0∧AskAns d x)∨(AskAns d 0∧((¬ WhP d.shape g r∧x=3)∨(WhP d.shape g r∧((¬ HasP d.on.1 d.on.2 g∧x=8)∨(HasP d.on.1 d.on.2 g∧x=0)))))
theorem zi7 {d:WorldD} {g r x:Int} (h:zmq d g r x):-9223372036854775808≤x∧x≤9223372036854775807:=by
 rcases h with ⟨_,h⟩ | ⟨_,⟨_,rfl⟩ | ⟨_,⟨_,rfl⟩ | ⟨_,rfl⟩⟩⟩
 ·exact zfz h
 ·decide
 ·decide
 ·decide
def CodeP (P:Int→Prop) (w:World) (e:Ending) (w':World):Prop:=∃ x,e=.returned (.int .i64 x)∧P x∧Below w.heap.size w w'
def NfC (d:WorldD) (nm:ByteArray) (x:Int):Prop:=(x≠0∧AskAns d x)∨(AskAns d 0∧NmAns nm x)
theorem NfC.one {d:WorldD} {nm:ByteArray} {x y:Int} (h:NfC d nm x) (k:NfC d nm y):x=y:=by
 rcases h with ⟨h1,h2⟩ | ⟨h1,h2⟩<;>rcases k with ⟨k1,k2⟩ | ⟨k1,k2⟩
 ·exact h2.one k2
 ·exact absurd (h2.one k1) h1
 ·exact absurd (k2.one h1) k1
 ·exact h2.one k2
theorem zgX {d:WorldD} {nm:ByteArray} {x:Int} (h:NfC d nm x):-9223372036854775808≤x∧x≤9223372036854775807:=by
 rcases h with ⟨h1,h2⟩ | ⟨_,⟨rfl,_⟩ | ⟨rfl,_⟩⟩
 ·exact zi7 (d:=d) (g:=0) (r:=0) (.inl ⟨h1,h2⟩)
 all_goals decide
theorem zgY {d:WorldD} {nm:ByteArray} (h:NfC d nm 0):AskAns d 0∧zb9 nm:=by
 rcases h with ⟨h1,_⟩ | ⟨h1,⟨h2,_⟩ | ⟨_,h2⟩⟩
 ·exact absurd rfl h1
 ·cases h2
 ·exact ⟨h1,h2⟩
theorem zfA {d:WorldD} (h:AskAns d 0):WldAns d 0:=by
 rcases h with ⟨h,_⟩ | ⟨h,_⟩
 ·exact absurd rfl h
 ·exact h
structure InRows (s:Nat→Int) (r:RecD):Prop where
 len:1≤r.length
 most:r.length≤3*(s 2*4)
 count:(r.rows.1:Int)=(r.length+s 2*4-1)/(s 2*4)
 apart:zca r.rows.1 r.rows.2 (s 4-1)
end Go.Proofs.YtclclojenogpbaaGreat
