/- Walks of the program's copies of records and tapes. -/
import Derived.Shelf.SlIter.Nil
import Derived.Shelf.SortM.Plain
import Derived.Shelf.SortM.SortNone
import Derived.Ground.GgzProg
import Derived.Ground.SlgmProg
import Derived.Maps.OwnSet
import Derived.WideKeyEntry
import Derived.DeepKeys4
import Derived.Deep.MidRow
import Derived.Test.YtecofihpkcljcaaGreatZPwaitiag
set_option linter.unusedVariables false
set_option linter.unusedSimpArgs false
set_option maxHeartbeats 16000000
namespace Go.Proofs.YtecofihpkcljcaaGreat
open Go.RowKit F256
theorem zc2:ElInfo zab 47 59 128 [.int .i64 0,.int .i64 0,.string ByteArray.empty,.int .i64 0,.int .i64 0,.int .i64 0,.slice none 0 0,.slice none 0 0,.slice none 0 0]:=⟨by decide,rfl,Tryz.underlying47,by kernel_rfl,by decide⟩
def mixF {β:Type} (p:Nat→Bool) (j:Nat) (f:Nat→β):Nat→β:=fun m=>if m<(zaY p j).length then f (selF p j m) else f m
theorem ziW {β:Type} {p:Nat→Bool} {j m:Nat} (f:Nat→β) (h:(zaY p j).length≤m):mixF p j f m=f m:=by unfold mixF;rw [if_neg (by omega)]
theorem zdv {β:Type} {p:Nat→Bool} {j:Nat} (f:Nat→β) (h:p j=false) (m:Nat):mixF p (j+1) f m=mixF p j f m:=by
 unfold mixF;rw [zcq h]
 by_cases c:m<(zaY p j).length
 ·rw [if_pos c,if_pos c,zc1 c]
 ·rw [if_neg c,if_neg c]
theorem zf7 {β:Type} {p:Nat→Bool} {j:Nat} (f:Nat→β) (h:p j=true) (m:Nat):upd (mixF p j f) (zaY p j).length (f j) m=mixF p (j+1) f m:=by
 have e:(zaY p (j+1)).length=(zaY p j).length+1:=by rw [zbS,if_pos h];simp
 unfold mixF
 by_cases c:m=(zaY p j).length
 ·subst c
  rw [zbO,if_pos (by omega),ze5 h]
 ·rw [zbP _ _ c]
  by_cases c2:m<(zaY p j).length
  ·rw [if_pos c2,if_pos (by omega),zc1 c2]
  ·rw [if_neg c2,if_neg (by omega)]
theorem zdw {p:Nat→Bool} {n:Nat} (h:∀ i,i<n→p i=true):zaY p n=List.range n:=by
 unfold zaY;exact List.filter_eq_self.2 (fun i hi=>h i (List.mem_range.1 hi))
theorem zfO {p:Nat→Bool} {n m:Nat} (h:∀ i,i<n→p i=true) (hm:m<n):selF p n m=m:=by
 unfold selF;rw [zdw h,List.getD_eq_getElem?_getD,List.getElem?_range hm];rfl
theorem zhO {β:Type} {p:Nat→Bool} {j:Nat} (f:Nat→β) (h:∀ i,i<j→p i=true) (m:Nat):mixF p j f m=f m:=by
 unfold mixF
 by_cases c:m<(zaY p j).length
 ·rw [if_pos c,zfO h (by rw [zdw h] at c;simpa using c)]
 ·rw [if_neg c]
theorem zhP {p:Nat→Bool} {n i:Nat} (hi:i<n) (h:p i=false):(zaY p n).length<n:=by
 induction n with
 | zero=>omega
 | succ n ih=>
  by_cases c:i=n
  ·subst c
   rw [zcq h];have:=zhN p i;omega
  ·have:=ih (by omega)
   have h2:(zaY p (n+1)).length≤(zaY p n).length+1:=by rw [zbS];split<;>simp
   omega
theorem ziD (w:World):(zeroValue 59).run Tryz.prog w=.ok (.agg #[.int .i64 0,.int .i64 0,.string ByteArray.empty,.int .i64 0,.int .i64 0,.int .i64 0,.slice none 0 0,.slice none 0 0,.slice none 0 0]) w:=by kernel_rfl
theorem zhQ (n:Nat):∀ v,v∈(Builtin.zeroCells #[.int .i64 0,.int .i64 0,.string ByteArray.empty,.int .i64 0,.int .i64 0,.int .i64 0,.slice none 0 0,.slice none 0 0,.slice none 0 0] n).toList→v.oneCell'=true:=fun v hv=>by
 simp only [Builtin.zeroCells,Array.toList_map,List.mem_map] at hv
 obtain ⟨i,_,rfl⟩:=hv;have hi:i%9<9:=Nat.mod_lt _ (by decide)
 show (#[.int .i64 0,.int .i64 0,.string ByteArray.empty,.int .i64 0,.int .i64 0,.int .i64 0,.slice none 0 0,.slice none 0 0,.slice none 0 0]:Array Value)[i%9]!.oneCell'=true
 generalize i%9=j at hi
 match j,hi with
 | 0,_=>rfl
 | 1,_=>rfl
 | 2,_=>rfl
 | 3,_=>rfl
 | 4,_=>rfl
 | 5,_=>rfl
 | 6,_=>rfl
 | 7,_=>rfl
 | 8,_=>rfl
theorem zgQ (z:Value) (zs:Array Value) (hv:∀ w,(zeroValue 59).run Tryz.prog w=.ok z w) (hz:z.cells=zs) (h9:zs.size=9) (hone:∀ n v,v∈(Builtin.zeroCells zs n).toList→v.oneCell'=true) (w:World) (ty g o n c:Nat) (cur:Array Value) (hg:w.heap[g]?=some (.cells cur 59 (0,0))) (hn:0<n) (hl:o+n*9≤cur.size):∃ row:Array Value,(Builtin.clear_ #[47] ty #[.slice (some ⟨g,o,none⟩) n c]).run Tryz.prog w=.ok (.tuple #[]) (w.setRow g row)∧row.size=cur.size∧row.toList.take o=cur.toList.take o:=by
 obtain ⟨Z,hZ⟩:∃ Z,Z=(Builtin.zeroCells zs n).toList:=⟨_,rfl⟩
 have hlen:Z.length=n*9:=by rw [hZ];simp [Builtin.zeroCells,h9]
 have hst:=run_storeCells_at (P:=Tryz.prog) g o 59 Z 0 cur w hg (by rw [hlen];omega) (by rw [hZ];exact hone n)
 simp only [Nat.add_zero] at hst
 refine ⟨(cur.toList.take o++Z++cur.toList.drop (o+Z.length)).toArray,?_,?_,?_⟩
 ·obtain ⟨m,rfl⟩:∃ m,n=m+1:=⟨n-1,by omega⟩
  simp [Builtin.clear_,run_underlying Tryz.underlying47,hv,hz,← hZ,hst]
 ·simp only [List.size_toArray,List.length_append,List.length_take,List.length_drop,hlen,Array.length_toList]
  omega
 ·simp only [List.toList_toArray]
  rw [List.append_assoc,List.take_append_of_le_length (by simp;omega),List.take_take,Nat.min_self]
theorem zgR (w:World) (ty g o n c:Nat) (cur:Array Value) (hg:w.heap[g]?=some (.cells cur 59 (0,0))) (hn:0<n) (hl:o+n*9≤cur.size):∃ row:Array Value,(Builtin.clear_ #[47] ty #[.slice (some ⟨g,o,none⟩) n c]).run Tryz.prog w=.ok (.tuple #[]) (w.setRow g row)∧row.size=cur.size∧row.toList.take o=cur.toList.take o:=
 zgQ (.agg #[.int .i64 0,.int .i64 0,.string ByteArray.empty,.int .i64 0,.int .i64 0,.int .i64 0,.slice none 0 0,.slice none 0 0,.slice none 0 0]) #[.int .i64 0,.int .i64 0,.string ByteArray.empty,.int .i64 0,.int .i64 0,.int .i64 0,.slice none 0 0,.slice none 0 0,.slice none 0 0] ziD rfl rfl zhQ w ty g o n c cur hg hn hl
theorem zgS (g n cap i:Nat) (hi:i<n) (hn:n≤cap) (w:World):(Instr.slice 47 (.slice (some ⟨g,0,none⟩) n cap) (some (.int .i64 (i:Int))) none none).run Tryz.prog w=.ok (.slice (some ⟨g,i*9,none⟩) (n-i) (cap-i)) w:=by
 have e1:(i:Int)≤(n:Int):=by omega
 have e6:i≤n:=by omega
 have e7:¬ cap=i:=by omega
 simp [Instr.slice,run_underlying Tryz.underlying47,Instr.sliceBounds,Instr.sliceBound,asIntOf,go_sem,e1,e6,e7]
theorem ziE (g n cap i:Nat) (hi:i≤cap) (w:World):(Instr.slice 47 (.slice (some ⟨g,0,none⟩) n cap) none (some (.int .i64 (i:Int))) none).run Tryz.prog w=.ok (.slice (some ⟨g,0,none⟩) i cap) w:=by
 have e1:(i:Int)≤(cap:Int):=by omega
 simp [Instr.slice,run_underlying Tryz.underlying47,Instr.sliceBounds,Instr.sliceBound,asIntOf,go_sem,e1,hi]
theorem zhR {n m s:Nat} {ce:Nat→List Value} (h:∀ i,i<n→(ce i).length=s) (hm:m≤n):(catN n ce).take (m*s)=catN m ce:=by
 induction n with
 | zero=>
  obtain rfl:m=0:=by omega
  simp [catN]
 | succ n ih=>
  by_cases c:m=n+1
  ·subst c
   exact List.take_of_length_le (by rw [zbj h];exact Nat.le_refl _)
  ·have hl:(catN n ce).length=n*s:=zbj (fun i hi=>h i (by omega))
   have hms:m*s≤n*s:=Nat.mul_le_mul_right s (by omega);rw [zbv,List.take_append_of_le_length (by omega)];exact ih (fun i hi=>h i (by omega)) (by omega)
end Go.Proofs.YtecofihpkcljcaaGreat
namespace Go.Proofs.YtecofihpkcljcaaGreat
open Go.RowKit Go.Maps Go.Sort Go.Shelf
def zd3:Go.Shelf.Ren:=⟨fun | 7=>84 | 10=>110 | n=>n,fun | 23=>86 | 26=>9 | 3=>126 | 28=>138 | 0=>0 | 27=>137 | 33=>157 | 4=>4 | n=>n,fun | n=>n⟩
theorem ziX:Go.Proofs.SlLaysZ.n7 Tryz.prog zd3:={
 mixed:=by kernel_rfl
 f7:=⟨Tryz.f84.name,by decide,Tryz.func84.trans (congrArg some (by kernel_rfl))⟩
 f10:=⟨Tryz.f110.name,by decide,Tryz.func110.trans (congrArg some (by kernel_rfl))⟩
 t0:=Tryz.underlying0
 a0:=Tryz.isAgg0
 z0:=Tryz.sizeOf0
 v0:=Tryz.zeroValue0
 t4:=Tryz.underlying4
 a4:=Tryz.isAgg4
 z4:=Tryz.sizeOf4
 v4:=Tryz.zeroValue4
 t23:=Tryz.underlying86
 a23:=Tryz.isAgg86
 z23:=Tryz.sizeOf86
 v23:=Tryz.zeroValue86
 t26:=Tryz.underlying9
 a26:=Tryz.isAgg9
 z26:=Tryz.sizeOf9
 v26:=Tryz.zeroValue9
 t27:=Tryz.underlying137
 a27:=Tryz.isAgg137
 z27:=Tryz.sizeOf137
 v27:=Tryz.zeroValue137
 t28:=Tryz.underlying138
 a28:=Tryz.isAgg138
 z28:=Tryz.sizeOf138
 v28:=Tryz.zeroValue138
 t33:=Tryz.underlying157
 a33:=Tryz.isAgg157
 z33:=Tryz.sizeOf157
 v33:=Tryz.zeroValue157 }
def zdm:Go.Shelf.Ren:=⟨fun | 6=>83 | 8=>108 | 9=>109 | 11=>131 | 13=>133 | 12=>132 | 23=>149 | 24=>150 | 14=>140 | 15=>141 | 16=>142 | 17=>143 | 18=>144 | 19=>145 | 20=>146 | 21=>147 | 22=>148 | 25=>152 | 26=>153 | 27=>154 | 28=>155 | 29=>156 | 30=>157 | 31=>158 | n=>n,fun | 26=>9 | 28=>138 | 24=>135 | 0=>0 | 3=>3 | 37=>175 | 48=>188 | 50=>190 | 4=>4 | 40=>180 | 39=>179 | 45=>185 | 5=>5 | 9=>9 | 51=>191 | 55=>195 | 57=>197 | 58=>198 | 33=>157 | n=>n,fun | n=>n⟩
theorem ziF:Go.Proofs.SlLaysZ.n6 Tryz.prog zdm:={
 mixed:=by kernel_rfl
 f6:=⟨Tryz.f83.name,by decide,Tryz.func83.trans (congrArg some (by kernel_rfl))⟩
 f8:=⟨Tryz.f108.name,by decide,Tryz.func108.trans (congrArg some (by kernel_rfl))⟩
 f11:=⟨Tryz.f131.name,by decide,Tryz.func131.trans (congrArg some (by kernel_rfl))⟩
 t0:=Tryz.underlying0
 a0:=Tryz.isAgg0
 z0:=Tryz.sizeOf0
 v0:=Tryz.zeroValue0
 t24:=Tryz.underlying135
 a24:=Tryz.isAgg135
 z24:=Tryz.sizeOf135
 v24:=Tryz.zeroValue135
 t26:=Tryz.underlying9
 a26:=Tryz.isAgg9
 z26:=Tryz.sizeOf9
 v26:=Tryz.zeroValue9
 t28:=Tryz.underlying138
 a28:=Tryz.isAgg138
 z28:=Tryz.sizeOf138
 v28:=Tryz.zeroValue138
 i26:=by kernel_rfl }
def zgT:Go.Shelf.Ren:=⟨fun | 6=>109 | 8=>133 | 9=>132 | 19=>149 | 20=>150 | 21=>140 | 22=>141 | 23=>142 | 24=>143 | 25=>144 | 26=>145 | 27=>146 | 28=>147 | 29=>148 | 36=>152 | 31=>153 | 32=>154 | 37=>155 | 38=>156 | 39=>157 | 41=>158 | n=>n,fun | 27=>135 | 29=>9 | 3=>3 | 32=>175 | 26=>135 | 0=>0 | 44=>188 | 46=>190 | 4=>4 | 36=>180 | 35=>179 | 41=>185 | 5=>5 | 9=>9 | 53=>191 | 57=>195 | 63=>197 | 64=>198 | n=>n,fun | n=>n⟩
theorem ziY:Go.Proofs.SlLaysM.n6 Tryz.prog zgT:={
 mixed:=by kernel_rfl
 f6:=⟨Tryz.f109.name,by decide,Tryz.func109.trans (congrArg some (by kernel_rfl))⟩
 f8:=Tryz.func133.trans (congrArg some (by kernel_rfl))
 f9:=⟨Tryz.f132.name,by decide,Tryz.func132.trans (congrArg some (by kernel_rfl))⟩
 f19:=Tryz.func149.trans (congrArg some (by kernel_rfl))
 f20:=Tryz.func150.trans (congrArg some (by kernel_rfl))
 f21:=⟨Tryz.f140.name,by decide,Tryz.func140.trans (congrArg some (by kernel_rfl))⟩
 f22:=⟨Tryz.f141.name,by decide,Tryz.func141.trans (congrArg some (by kernel_rfl))⟩
 f23:=⟨Tryz.f142.name,by decide,Tryz.func142.trans (congrArg some (by kernel_rfl))⟩
 f24:=⟨Tryz.f143.name,by decide,Tryz.func143.trans (congrArg some (by kernel_rfl))⟩
 f25:=⟨Tryz.f144.name,by decide,Tryz.func144.trans (congrArg some (by kernel_rfl))⟩
 f26:=⟨Tryz.f145.name,by decide,Tryz.func145.trans (congrArg some (by kernel_rfl))⟩
 f27:=⟨Tryz.f146.name,by decide,Tryz.func146.trans (congrArg some (by kernel_rfl))⟩
 f28:=⟨Tryz.f147.name,by decide,Tryz.func147.trans (congrArg some (by kernel_rfl))⟩
 f29:=⟨Tryz.f148.name,by decide,Tryz.func148.trans (congrArg some (by kernel_rfl))⟩
 f31:=Tryz.func153.trans (congrArg some (by kernel_rfl))
 f32:=Tryz.func154.trans (congrArg some (by kernel_rfl))
 f36:=⟨Tryz.f152.name,by decide,Tryz.func152.trans (congrArg some (by kernel_rfl))⟩
 f37:=⟨Tryz.f155.name,by decide,Tryz.func155.trans (congrArg some (by kernel_rfl))⟩
 f38:=⟨Tryz.f156.name,by decide,Tryz.func156.trans (congrArg some (by kernel_rfl))⟩
 f39:=⟨Tryz.f157.name,by decide,Tryz.func157.trans (congrArg some (by kernel_rfl))⟩
 f41:=⟨Tryz.f158.name,by decide,Tryz.func158.trans (congrArg some (by kernel_rfl))⟩
 t0:=Tryz.underlying0
 a0:=Tryz.isAgg0
 z0:=Tryz.sizeOf0
 v0:=Tryz.zeroValue0
 t3:=Tryz.underlying3
 a3:=Tryz.isAgg3
 z3:=Tryz.sizeOf3
 v3:=Tryz.zeroValue3
 t4:=Tryz.underlying4
 a4:=Tryz.isAgg4
 z4:=Tryz.sizeOf4
 v4:=Tryz.zeroValue4
 t5:=Tryz.underlying5
 a5:=Tryz.isAgg5
 z5:=Tryz.sizeOf5
 v5:=Tryz.zeroValue5
 t9:=Tryz.underlying9
 a9:=Tryz.isAgg9
 z9:=Tryz.sizeOf9
 v9:=Tryz.zeroValue9
 t26:=Tryz.underlying135
 a26:=Tryz.isAgg135
 z26:=Tryz.sizeOf135
 v26:=Tryz.zeroValue135
 t27:=Tryz.underlying135
 a27:=Tryz.isAgg135
 z27:=Tryz.sizeOf135
 v27:=Tryz.zeroValue135
 t29:=Tryz.underlying9
 a29:=Tryz.isAgg9
 z29:=Tryz.sizeOf9
 v29:=Tryz.zeroValue9
 t32:=Tryz.underlying175
 a32:=Tryz.isAgg175
 z32:=Tryz.sizeOf175
 v32:=Tryz.zeroValue175
 t35:=Tryz.underlying179
 a35:=Tryz.isAgg179
 z35:=Tryz.sizeOf179
 v35:=Tryz.zeroValue179
 t36:=Tryz.underlying180
 a36:=Tryz.isAgg180
 z36:=Tryz.sizeOf180
 v36:=Tryz.zeroValue180
 t41:=Tryz.underlying185
 a41:=Tryz.isAgg185
 z41:=Tryz.sizeOf185
 v41:=Tryz.zeroValue185
 t44:=Tryz.underlying188
 a44:=Tryz.isAgg188
 z44:=Tryz.sizeOf188
 v44:=Tryz.zeroValue188
 t46:=Tryz.underlying190
 a46:=Tryz.isAgg190
 z46:=Tryz.sizeOf190
 v46:=Tryz.zeroValue190
 t53:=Tryz.underlying191
 a53:=Tryz.isAgg191
 z53:=Tryz.sizeOf191
 v53:=Tryz.zeroValue191
 t57:=Tryz.underlying195
 a57:=Tryz.isAgg195
 z57:=Tryz.sizeOf195
 v57:=Tryz.zeroValue195
 t63:=Tryz.underlying197
 a63:=Tryz.isAgg197
 z63:=Tryz.sizeOf197
 v63:=Tryz.zeroValue197
 t64:=Tryz.underlying198
 a64:=Tryz.isAgg198
 z64:=Tryz.sizeOf198
 v64:=Tryz.zeroValue198 }
theorem zje (m:Nat):AnyZ.SortsIn Tryz.prog zdm Fence.wide m:=
 ⟨fun blk off cap ss W hH hblk hsz=>callsIn_wide.2 (AnyM.slices_Sort_string ziY blk off cap ss W hH hblk hsz),
  fun p cap W=>callsIn_wide.2 (AnyM.slices_Sort_string_none ziY p cap W)⟩
theorem zgU (mb:Option Nat) (W:World):CallsIn Fence.wide 5 Tryz.prog 84 #[.map mb] W fun e w'=>e=.returned (.func (.func 110) #[] #[.pointer (some ⟨W.heap.size,0,none⟩)])∧w'=W.alloc (.cells #[.map mb] 86):=
 AnyZ.keys_in ziX Fence.wide 5 trivial rfl mb W
theorem ze6 {H:Type} (b nn:Nat) (D0:DataW H) (R:Value→Option (DataW H×List MemPlace)) (w:World) (hown:w.ownsMap Tryz.prog 9 R b nn D0) (hmax:Maps.size D0≤maxLen) (hbytes:Maps.size D0*16≤140737488355328) :
 CallsIn Fence.wide 5 Tryz.prog 83 #[.func (.func 110) #[] #[.pointer (some ⟨w.heap.size,0,none⟩)]] (w.alloc (.cells #[.map (some b)] 86)) fun e w'=>∃ (v:Value) (ss:List (List UInt8)),e=.returned v∧ss.Perm (strKeys D0)∧
  w'.ownsRow (w.alloc (.cells #[.map (some b)] 86)).heap.size 9 1 v ss.length ((ss.mergeSort (fun x y=>decide (x≤y))).map encStr)∧(v=.slice none 0 0↔ss=[])∧Below (w.alloc (.cells #[.map (some b)] 86)).heap.size (w.alloc (.cells #[.map (some b)] 86)) w':=by
 have hbl:=hown.lt
 have hseq:SeqGives Fence.wide 2 Tryz.prog 110 #[.pointer (some ⟨w.heap.size,0,none⟩)] encStr (fun ss=>ss.Perm (strKeys D0)) (Maps.size D0) (w.alloc (.cells #[.map (some b)] 86)):=
  AnyZ.keys_gives (ρ:=zd3) { ziX with } Fence.wide _ trivial rfl (by omega) w.heap.size b nn D0 _ (by simp) (by simp) (by
   obtain ⟨es,clock,hb,Ft,hs,hD⟩:=hown
   exact ⟨es,clock,(Below.heap_alloc _ _ b hbl).trans hb,Ft,hs,hD⟩)
 exact AnyZ.sorted_in ziF Fence.wide 5 trivial trivial trivial trivial rfl (by omega) (zje _) (enters_of Tryz.func109 (by kernel_rfl) rfl) 110 #[.pointer (some ⟨w.heap.size,0,none⟩)] trivial (enters_of Tryz.func110 (by kernel_rfl) rfl) _ _ hmax hbytes _ hseq
end Go.Proofs.YtecofihpkcljcaaGreat
namespace Go.Proofs.YtecofihpkcljcaaGreat
open Go.RowKit F256
open Go.Maps (Keyed)
def zdT (v:Value):Option (DataW Value×List MemPlace):=some (.held v,[])
def MapV (w:World) (k:TypeId) (b n:Nat) (f:Value→Option Value):Prop:=
 ∃ D,w.ownsMap Tryz.prog k zdT b n D∧∀ x l,keyOf Tryz.prog k x=some l→Maps.has D l=(f x).isSome∧∀ z,D.atKey l (.held z)=.held ((f x).getD z)
open Classical in
noncomputable def putF (f:Value→Option Value) (x v:Value):Value→Option Value:=fun y=>if y=x then some v else f y
theorem zc3 (f:Value→Option Value) (x v:Value):putF f x v x=some v:=by unfold putF;rw [if_pos rfl]
theorem zdf (f:Value→Option Value) {x y:Value} (v:Value) (h:y≠x):putF f x v y=f y:=by unfold putF;rw [if_neg h]
section
variable {w w':World} {k t e:TypeId} {b n:Nat} {f:Value→Option Value}
theorem zcr (w:World) (k:TypeId):MapV (w.alloc (.map #[] 0)) k w.heap.size 0 (fun _=>none):=
 ⟨.map [],World.ownsMap_made w Tryz.prog k zdT,fun x l hx=>⟨by simp [Maps.has],fun z=>by simp [DataW.atKey]⟩⟩
theorem MapV.lt (h:MapV w k b n f):b<w.heap.size:=by
 obtain ⟨D,h1,_⟩:=h;exact h1.lt
theorem MapV.mono (h:MapV w k b n f) {m:Nat} (hm:n≤m):MapV w k b m f:=by
 obtain ⟨D,h1,h2⟩:=h;exact ⟨D,h1.mono hm,h2⟩
theorem MapV.block (h:MapV w k b n f) (hb:w'.heap[b]?=w.heap[b]?):MapV w' k b n f:=by
 obtain ⟨D,⟨es,clock,h1,h3⟩,h2⟩:=h;exact ⟨D,⟨es,clock,hb.trans h1,h3⟩,h2⟩
theorem MapV.look (h:MapV w k b n f) (K:Keyed Tryz.prog k) (ht:Tryz.prog.underlying t=some (.map k e)) {z:Value} (hz:(zeroValue e).run Tryz.prog w=.ok z w) {x:Value} {l:Lit} (hx:keyOf Tryz.prog k x=some l) :
 (Instr.lookup t (.map (some b)) x false).run Tryz.prog w=.ok ((f x).getD z) w:=by
 obtain ⟨D,h1,h2⟩:=h;obtain ⟨v,ps,h3,h4⟩:=h1.lookup K ht hz (zd:=.held z) (zp:=[]) rfl hx;rw [(h2 x l hx).2 z] at h4;unfold zdT at h4
 simp only [Option.some.injEq,Prod.mk.injEq,DataW.held.injEq] at h4
 rw [h3,h4.1]
theorem zf8 {D:DataW Value} (K:Keyed Tryz.prog k) (hD:Maps.IsMap D) {x v:Value} {l:Lit} (hx:keyOf Tryz.prog k x=some l) (h2:∀ x l,keyOf Tryz.prog k x=some l→Maps.has D l=(f x).isSome∧∀ z,D.atKey l (.held z)=.held ((f x).getD z)) :
 ∀ y m,keyOf Tryz.prog k y=some m→Maps.has (D.put l (.held v)) m=(putF f x v y).isSome∧∀ z,(D.put l (.held v)).atKey m (.held z)=.held ((putF f x v y).getD z):=by
 intro y m hy
 by_cases c:y=x
 ·subst c
  rw [hx] at hy
  cases hy
  rw [zc3];exact ⟨Maps.has_put_same hD (K.key hx) _,fun z=>Maps.atKey_put_same hD (K.key hx) _ _⟩
 ·have hne:m≠l:=fun e=>c (K.inj hy (by rw [e];exact hx))
  rw [zdf f v c];exact ⟨(Maps.has_put_other hne _).trans (h2 y m hy).1,fun z=>(Maps.atKey_put_other hne _ _).trans ((h2 y m hy).2 z)⟩
theorem MapV.put (h:MapV w k b n f) (K:Keyed Tryz.prog k) (ht:Tryz.prog.underlying t=some (.map k e)) (hn:n<maxLen) {x:Value} {l:Lit} (hx:keyOf Tryz.prog k x=some l) (v:Value) :
 ∃ w',(Instr.mapUpdate t (.map (some b)) x v).run Tryz.prog w=.ok () w'∧MapV w' k b (n+1) (putF f x v)∧w.grownBy w' (some b)∧w'.heap.size=w.heap.size:=by
 obtain ⟨D,h1,h2⟩:=h;obtain ⟨w',h3,h4,h5⟩:=h1.store K ht hn hx (val:=v) (d:=.held v) (ps:=[]) rfl;refine ⟨w',h3,⟨_,h4,zf8 K h1.isMap hx h2⟩,h5.grown,?_⟩;obtain ⟨es,clock,es',clock',_,rfl⟩:=h5
 simp [ChangeMaps.setBlock]
theorem zhS {es:Array MapEntry} {clock:Nat} (K:WideMaps.KeyLaw Tryz.prog k) (ht:Tryz.prog.underlying t=some (.map k e)) {z:Value} (hz:∀ u:World,(zeroValue e).run Tryz.prog u=.ok z u) (hb:w.heap[b]?=some (.map es clock)) (F:WideElems.Fit Tryz.prog k zdT es clock)
 {x:Value} {l:Lit} (hx:keyOf Tryz.prog k x=some l) :
 ∃ (v0:Value) (st:Nat) (es1:Array MapEntry) (clock1:Nat),(Instr.mapEntry t (.map (some b)) x).run Tryz.prog w=.ok (.tuple #[v0,goInt st]) (ChangeMaps.setBlock w b (.map es1 clock1))∧
  (Instr.lookup t (.map (some b)) x false).run Tryz.prog w=.ok v0 w∧(Instr.mapUpdate t (.map (some b)) x v0).run Tryz.prog w=.ok () (ChangeMaps.setBlock w b (.map es1 clock1)):=by
 rcases K.find w hx es.toList F.keys with ⟨h1,h2⟩ | ⟨j,e0,h1,h2,h3⟩
 ·refine ⟨z,clock,es.push ⟨x,z,clock⟩,clock+1,?_,?_,?_⟩
  ·simp [Instr.mapEntry,run_underlying ht,MapKept.run_getObj_map hb,K.check w false hx,h1,hz,MapKept.run_setObj_map _ hb,Result.andThen,ChangeMaps.setBlock]
  ·simp [Instr.lookup,run_underlying ht,MapKept.run_getObj_map hb,K.check w _ hx,h1,hz,Result.andThen]
  ·simp [Instr.mapUpdate,run_underlying ht,MapKept.run_getObj_map hb,K.check w false hx,h1,MapKept.run_setObj_map _ hb,Result.andThen,ChangeMaps.setBlock]
 ·have hj:es[j]?=some e0:=by simpa using h2
  have hs1:es.modify j (fun e=>{ e with key:=x })=es:=by
   apply Array.ext'
   rw [Array.toList_modify,ChangeMaps.modify_eq_set _ _ _ _ h2]
   have:({ e0 with key:=x }:MapEntry)=e0:=by rw [← h3]
   rw [this];exact WideElems.set_self _ _ _ h2
  have hs2:es.modify j (fun e=>{ e with key:=x,val:=e0.val })=es:=by
   apply Array.ext'
   rw [Array.toList_modify,ChangeMaps.modify_eq_set _ _ _ _ h2]
   have:({ e0 with key:=x,val:=e0.val }:MapEntry)=e0:=by rw [← h3]
   rw [this];exact WideElems.set_self _ _ _ h2
  refine ⟨e0.val,e0.born,es,clock,?_,?_,?_⟩
  ·simp [Instr.mapEntry,run_underlying ht,MapKept.run_getObj_map hb,K.check w false hx,h1,hj,h3,K.stays w hx,hs1,MapKept.run_setObj_map _ hb,Result.andThen,ChangeMaps.setBlock]
  ·simp [Instr.lookup,run_underlying ht,MapKept.run_getObj_map hb,K.check w _ hx,h1,Result.andThen]
  ·simp [Instr.mapUpdate,run_underlying ht,MapKept.run_getObj_map hb,K.check w false hx,h1,hj,h3,K.stays w hx,hs2,MapKept.run_setObj_map _ hb,Result.andThen,ChangeMaps.setBlock]
theorem MapV.entry (h:MapV w k b n f) (K:WideMaps.KeyLaw Tryz.prog k) (ht:Tryz.prog.underlying t=some (.map k e)) (hn:n<maxLen) {z:Value} (hz:∀ u:World,(zeroValue e).run Tryz.prog u=.ok z u) {x:Value} {l:Lit} (hx:keyOf Tryz.prog k x=some l) :
 ∃ st w1,(Instr.mapEntry t (.map (some b)) x).run Tryz.prog w=.ok (.tuple #[(f x).getD z,.int .i64 st]) w1∧w1.heap.size=w.heap.size∧w.grownBy w1 (some b)∧(Instr.lookup t (.map (some b)) x false).run Tryz.prog w1=.ok ((f x).getD z) w1∧
  ∀ v,∃ w',(Instr.entryStore t (.map (some b)) (.int .i64 st) v).run Tryz.prog w1=.ok () w'∧MapV w' k b (n+1) (putF f x v)∧w.grownBy w' (some b)∧w'.heap.size=w.heap.size:=by
 have KK:=Keyed.of_law K;have hM:=h;obtain ⟨D,h1,h2⟩:=h;have h1':=h1;obtain ⟨es,clock,hb,F,hs,hD⟩:=h1';obtain ⟨v0,st,es1,clock1,r1,r2,r3⟩:=WideElems.entry_then_store K ht hz hb F hx;obtain ⟨v0',st',es1',clock1',a1,a2,a3⟩:=zhS K ht hz hb F hx
 have ea:v0'=v0∧ChangeMaps.setBlock w b (.map es1' clock1')=ChangeMaps.setBlock w b (.map es1 clock1):=by
  rw [r1] at a1
  simp only [Result.ok.injEq,Value.tuple.injEq,Array.mk.injEq,List.cons.injEq] at a1
  exact ⟨a1.1.1.symm,a1.2.symm⟩
 have ev:v0=(f x).getD z:=by
  have:=hM.look KK ht (hz w) hx;rw [a2,ea.1] at this
  simpa using this
 obtain ⟨w2,q1,q2,q3,q4⟩:=hM.put KK ht hn hx v0
 have ew:w2=ChangeMaps.setBlock w b (.map es1 clock1):=by
  rw [ea.1,ea.2] at a3;rw [a3] at q1
  simpa using q1.symm
 have hl:(Instr.lookup t (.map (some b)) x false).run Tryz.prog (ChangeMaps.setBlock w b (.map es1 clock1))=.ok ((f x).getD z) (ChangeMaps.setBlock w b (.map es1 clock1)):=by
  rw [← ew];have:=q2.look KK ht (hz w2) hx;rw [zc3] at this;rw [this,ev];rfl
 rw [ev] at r1;refine ⟨(st:Int),_,r1,by simp [ChangeMaps.setBlock],⟨rfl,rfl,rfl,by simp [ChangeMaps.setBlock],fun i _ hi=>ChangeMaps.heap_setBlock_other hb _ (fun e=>hi (by rw [e]))⟩,hl,fun v=>?_⟩;obtain ⟨es',clock',r4,r5⟩:=r3 _ v (ChangeMaps.heap_setBlock_same hb _);obtain ⟨w',h3,h4,h5⟩:=h1.store KK ht hn hx (val:=v) (d:=.held v) (ps:=[]) rfl
 have ew:w'=ChangeMaps.setBlock w b (.map es' clock'):=by
  rw [r5] at h3
  cases h3
  rfl
 have e2:ChangeMaps.setBlock (ChangeMaps.setBlock w b (.map es1 clock1)) b (.map es' clock')=ChangeMaps.setBlock w b (.map es' clock'):=by simp [ChangeMaps.setBlock]
 refine ⟨w',?_,⟨_,h4,zf8 KK h1.isMap hx h2⟩,h5.grown,?_⟩
 ·rw [ew,← e2]
  exact r4
 ·rw [ew]
  simp [ChangeMaps.setBlock]
end
end Go.Proofs.YtecofihpkcljcaaGreat
namespace Go.Proofs.YtecofihpkcljcaaGreat
open Go.RowKit F256
open Go.Maps (Keyed)
theorem zf9:laidOutB Tryz.prog=true:=by kernel_rfl
theorem keyS:Keyed Tryz.prog 9:=Maps.string_keyed Tryz.underlying9
theorem keyI:Keyed Tryz.prog 2:=Maps.int_keyed Tryz.underlying2
theorem zhT:WideMaps.KeyLaw Tryz.prog 130:=deep_law_laid zf9 (m:=2) (by omega) (of_decide_eq_true (by kernel_rfl)) (by kernel_rfl) (by kernel_rfl)
theorem ziG:WideMaps.KeyLaw Tryz.prog 133:=deep_law_laid zf9 (m:=2) (by omega) (of_decide_eq_true (by kernel_rfl)) (by kernel_rfl) (by kernel_rfl)
theorem zjf:Keyed Tryz.prog 130:=Keyed.of_law zhT
theorem ziH:Keyed Tryz.prog 133:=Keyed.of_law ziG
theorem wf64 {a:Int} (h:-9223372036854775808≤a∧a≤9223372036854775807):(Lit.int .i64 a).wf=true:=by
 have e1:IntKind.i64.min=-9223372036854775808:=by decide
 have e2:IntKind.i64.max=9223372036854775807:=by decide
 simp [Lit.wf,e1,e2,h]
theorem zhU {s:ByteArray} (h:s.size≤maxLen):∃ l,keyOf Tryz.prog 9 (.string s)=some l:=⟨_,WideMaps.keyOf_string_mk Tryz.underlying9 h⟩
theorem zhV {a:Int} (h:-9223372036854775808≤a∧a≤9223372036854775807):∃ l,keyOf Tryz.prog 2 (.int .i64 a)=some l:=⟨_,Maps.keyOf_int_mk Tryz.underlying2 (wf64 h)⟩
theorem zgV {a b:Int} (ha:-9223372036854775808≤a∧a≤9223372036854775807) (hb:-9223372036854775808≤b∧b≤9223372036854775807):∃ l,keyOf Tryz.prog 130 (.agg #[.int .i64 a,.int .i64 b])=some l:=by
 have h1:Tryz.prog.keyType 130=true:=by kernel_rfl
 have h2:Tryz.prog.cellsOf 130=2:=by kernel_rfl
 have h3:Tryz.prog.cellsOf 2=1:=by kernel_rfl
 obtain ⟨m,hm⟩:∃ m,Tryz.prog.types.size=m+1:=⟨Tryz.prog.types.size-1,by have:0<Tryz.prog.types.size:=of_decide_eq_true (by kernel_rfl);omega⟩
 have k1:∀ x:Int,(-9223372036854775808≤x∧x≤9223372036854775807)→Tryz.prog.keyLits (m+1) 2 [.int .i64 x]=some [.int .i64 x]:=fun x hx=>by
  unfold Program.keyLits;rw [Tryz.underlying2]
  simp [wf64 hx]
 have k2:∃ ls,Tryz.prog.keyLits (m+1+1) 130 [.int .i64 a,.int .i64 b]=some ls:=by
  unfold Program.keyLits;rw [Tryz.underlying130]
  simp [h2,h3,k1 a ha,k1 b hb]
 obtain ⟨ls,k3⟩:=k2;refine ⟨.string (keyBytes ls),?_⟩;unfold keyOf;rw [Tryz.underlying130]
 have h4:(Value.agg #[.int .i64 a,.int .i64 b]).formed Tryz.prog 130=true:=by simp [Value.formed,Tryz.underlying130,h2]
 have h5:(Value.agg #[.int .i64 a,.int .i64 b]).cells.toList=[.int .i64 a,.int .i64 b]:=rfl
 simp only [h1,h4,h5,hm,k3,Bool.and_self,if_true,Option.map_some]
theorem zfP {a b:Int} (ha:-9223372036854775808≤a∧a≤9223372036854775807) (hb:-9223372036854775808≤b∧b≤9223372036854775807):∃ l,keyOf Tryz.prog 133 (.agg #[.int .i64 a,.int .i64 b])=some l:=by
 have h1:Tryz.prog.keyType 133=true:=by kernel_rfl
 have h2:Tryz.prog.cellsOf 133=2:=by kernel_rfl
 have h3:Tryz.prog.cellsOf 2=1:=by kernel_rfl
 obtain ⟨m,hm⟩:∃ m,Tryz.prog.types.size=m+1:=⟨Tryz.prog.types.size-1,by have:0<Tryz.prog.types.size:=of_decide_eq_true (by kernel_rfl);omega⟩
 have k1:∀ x:Int,(-9223372036854775808≤x∧x≤9223372036854775807)→Tryz.prog.keyLits (m+1) 2 [.int .i64 x]=some [.int .i64 x]:=fun x hx=>by
  unfold Program.keyLits;rw [Tryz.underlying2]
  simp [wf64 hx]
 have k2:∃ ls,Tryz.prog.keyLits (m+1+1) 133 [.int .i64 a,.int .i64 b]=some ls:=by
  unfold Program.keyLits;rw [Tryz.underlying133]
  simp [h2,h3,k1 a ha,k1 b hb]
 obtain ⟨ls,k3⟩:=k2;refine ⟨.string (keyBytes ls),?_⟩;unfold keyOf;rw [Tryz.underlying133]
 have h4:(Value.agg #[.int .i64 a,.int .i64 b]).formed Tryz.prog 133=true:=by simp [Value.formed,Tryz.underlying133,h2]
 have h5:(Value.agg #[.int .i64 a,.int .i64 b]).cells.toList=[.int .i64 a,.int .i64 b]:=rfl
 simp only [h1,h4,h5,hm,k3,Bool.and_self,if_true,Option.map_some]
end Go.Proofs.YtecofihpkcljcaaGreat
namespace Go.Proofs.YtecofihpkcljcaaGreat
open Go.RowKit F256
open Go.Maps (Keyed)
def entT (k:Int):TypeId:=if k=1 then 126 else if k=2 then 127 else if k=3 then 128 else 131
def entV (k:Int) (cs:List Value):Value:=.iface (entT k) (.agg cs.toArray)
open Classical in
noncomputable def cN (p:Nat→Prop) (key:Nat→Value) (y:Value):Nat→Nat
 | 0=>0
 | k+1=>cN p key y k+(if p k∧key k=y then 1 else 0)
noncomputable def cntF (p:Nat→Prop) (key:Nat→Value) (k:Nat):Value→Option Value:=fun y=>if cN p key y k=0 then none else some (.int .i64 (cN p key y k:Int))
theorem ziI (p:Nat→Prop) (key:Nat→Value) (y:Value):∀ k,cN p key y k≤k
 | 0=>Nat.le_refl _
 | k+1=>by
  have:=ziI p key y k;unfold cN
  split<;>omega
theorem zbm {p:Nat→Prop} {key:Nat→Value} {k:Nat} (h:¬ p k):cntF p key (k+1)=cntF p key k:=by
 funext y
 have e:cN p key y (k+1)=cN p key y k:=by
  show cN p key y k+_=_
  rw [if_neg (fun q=>h q.1)];rfl
 unfold cntF;rw [e]
theorem zer {p:Nat→Prop} {key:Nat→Value} {k:Nat} (h:p k):cntF p key (k+1)=putF (cntF p key k) (key k) (.int .i64 ((cN p key (key k) k:Int)+1)):=by
 funext y
 by_cases c:y=key k
 ·subst c
  rw [zc3]
  have e:cN p key (key k) (k+1)=cN p key (key k) k+1:=by
   show cN p key (key k) k+_=_
   rw [if_pos ⟨h,rfl⟩]
  unfold cntF;rw [e,if_neg (by omega)]
  simp
 ·rw [zdf _ _ c]
  have e:cN p key y (k+1)=cN p key y k:=by
   show cN p key y k+_=_
   rw [if_neg (fun q=>c q.2.symm)];rfl
  unfold cntF;rw [e]
theorem zes (p:Nat→Prop) (key:Nat→Value) (k:Nat) (y:Value):(cntF p key k y).getD (.int .i64 0)=.int .i64 (cN p key y k:Int):=by
 unfold cntF
 split
 ·rename_i h
  rw [h];rfl
 ·rfl
noncomputable def ze7 (p:Nat→Prop) (key val:Nat→Value):Nat→Value→Option Value
 | 0=>fun _=>none
 | k+1=>@ite _ (p k) (Classical.propDecidable _) (putF (ze7 p key val k) (key k) (val k)) (ze7 p key val k)
theorem zbo {p:Nat→Prop} {key val:Nat→Value} {k:Nat} (h:¬ p k):ze7 p key val (k+1)=ze7 p key val k:=if_neg h
theorem zdH {p:Nat→Prop} {key val:Nat→Value} {k:Nat} (h:p k):ze7 p key val (k+1)=putF (ze7 p key val k) (key k) (val k):=if_pos h
section
variable (x:Nat→RecD) (ce:Nat→List Value) (k:Nat)
noncomputable def newF:Value→Option Value:=ze7 (fun i=>(x i).kind=1) (fun i=>.string (x i).name) (fun i=>.agg (ce i).toArray) k
noncomputable def movF:Value→Option Value:=cntF (fun i=>(x i).kind=2) (fun i=>.int .i64 (x i).seq) k
noncomputable def donF:Value→Option Value:=cntF (fun i=>(x i).kind=3) (fun i=>.agg #[.int .i64 (x i).seq,.int .i64 (x i).group]) k
noncomputable def endF:Value→Option Value:=cntF (fun i=>(x i).kind=3) (fun i=>.int .i64 (x i).seq) k
noncomputable def shaF:Value→Option Value:=ze7 (fun i=>(x i).kind=4) (fun i=>.agg #[.int .i64 (x i).group,.int .i64 (x i).row]) (fun i=>.int .i64 (x i).seq) k
def entL:List Value:=(List.range k).map (fun i=>entV (x i).kind (ce i))
end
theorem zhW (x:Nat→RecD) (ce:Nat→List Value) (k:Nat):entL x ce (k+1)=entL x ce k++[entV (x k).kind (ce k)]:=by
 unfold entL;rw [List.range_succ,List.map_append];rfl
structure Ldg (w:World) (lo B:Nat) (s:Nat→Int) (m k:Nat) (x:Nat→RecD) (ce:Nat→List Value) (v:Value) (b1 b2 b3 b4 b5:Nat):Prop where
 box:Box w B #[.int .i64 (s 0),.int .i64 (s 1),.int .i64 (s 2),.int .i64 (s 3),.int .i64 (s 4),.int .i64 (s 5),.int .i64 (s 6),.int .i64 (s 7),.int .i64 (s 8),v,.map (some b1),.map (some b2),.map (some b3),.map (some b4),.map (some b5)] 92
 row:w.ownsRow lo 96 1 v m (entL x ce m)
 m1:MapV w 9 b1 k (newF x ce k)
 m2:MapV w 2 b2 k (movF x k)
 m3:MapV w 130 b3 k (donF x k)
 m4:MapV w 2 b4 k (endF x k)
 m5:MapV w 133 b5 k (shaF x k)
 nd:[B,b1,b2,b3,b4,b5].Nodup
 low:lo≤B∧lo≤b1∧lo≤b2∧lo≤b3∧lo≤b4∧lo≤b5
 apart:∀ g,v.ownBlock=some g→g∉[B,b1,b2,b3,b4,b5]
theorem zbh {w:World} {lo:Nat} {e:TypeId} {v:Value} {n:Nat} {xs:List Value} (h:w.ownsRow lo e 1 v n xs):∃ ao cap,v=.slice ao n cap:=by
 rcases h.2 with ⟨rfl,rfl⟩ | ⟨g,cap,cur,rfl,_⟩
 ·exact ⟨none,0,rfl⟩
 ·exact ⟨_,_,rfl⟩
theorem zdI {w w1 w2:World} {q:Option Nat} {b:Nat} (h1:w.grownBy w1 none) (h2:w1.grownBy w2 q) (hb:b<w.heap.size) (hq:some b≠q):w2.heap[b]?=w.heap[b]?:=
 (h2.block b (Nat.lt_of_lt_of_le hb h1.size) hq).trans (h1.block b hb (by simp))
section
variable {w w1 w2:World} {lo B:Nat} {s:Nat→Int} {m k:Nat} {x:Nat→RecD} {ce:Nat→List Value} {v v':Value} {b1 b2 b3 b4 b5:Nat}
theorem Ldg.grown (h:Ldg w lo B s m k x ce v b1 b2 b3 b4 b5) (h1:w.grownBy w1 none) (h2:w1.grownBy w2 v.ownBlock):Box w2 B #[.int .i64 (s 0),.int .i64 (s 1),.int .i64 (s 2),.int .i64 (s 3),.int .i64 (s 4),.int .i64 (s 5),.int .i64 (s 6),.int .i64 (s 7),.int .i64 (s 8),v,.map (some b1),.map (some b2),.map (some b3),.map (some b4),.map (some b5)] 92:=
 (zdI h1 h2 h.box.lt (fun e=>h.apart B e.symm (by simp))).trans h.box
theorem Ldg.laid {o1 o2:Obj} (h:Ldg w lo B s k k x ce v b1 b2 b3 b4 b5) (g1:(w.alloc o1).grownBy w1 v.ownBlock) (O1:w1.ownsRow lo 96 1 v' (k+1) (entL x ce k++[entV (x k).kind (ce k)])) (hloc:v'.ownBlock=v.ownBlock∨v'.ownBlock=some (w.alloc o1).heap.size) :
 Ldg ((w1.setCell ⟨B,9,none⟩ v').alloc o2) lo B s (k+1) k x ce v' b1 b2 b3 b4 b5:=by
 have g0:w.grownBy (w.alloc o1) none:=World.grownBy_alloc _ _ _
 have sz:w.heap.size+1≤w1.heap.size:=by have:=g1.size;simp at this;omega
 have keep:∀ b,b∈[B,b1,b2,b3,b4,b5]→b<w.heap.size→w1.heap[b]?=w.heap[b]?:=fun b hb hl=>zdI g0 g1 hl (fun e=>h.apart b e.symm hb)
 have ne:∀ b,b∈[b1,b2,b3,b4,b5]→b≠B:=fun b hb e=>by
  have:=h.nd;rw [List.nodup_cons] at this;exact this.1 (by rw [← e];exact hb)
 have keep2:∀ b,b∈[b1,b2,b3,b4,b5]→b<w.heap.size→((w1.setCell ⟨B,9,none⟩ v').alloc o2).heap[b]?=w.heap[b]?:=fun b hb hl=>by
  rw [Below.heap_alloc _ _ b (by simp;omega),heap_setCell_other w1 ⟨B,9,none⟩ b v' (ne b hb)];exact keep b (List.mem_cons_of_mem _ hb) hl
 have ap:∀ g,v'.ownBlock=some g→g∉[B,b1,b2,b3,b4,b5]:=fun g hg=>by
  rcases hloc with e | e
  ·exact h.apart g (by rw [← e];exact hg)
  ·rw [e] at hg
   cases hg
   have l0:=h.box.lt;have l1:=h.m1.lt;have l2:=h.m2.lt;have l3:=h.m3.lt;have l4:=h.m4.lt;have l5:=h.m5.lt
   simp
   omega
 refine ⟨?_,?_,h.m1.block (keep2 b1 (by simp) h.m1.lt),h.m2.block (keep2 b2 (by simp) h.m2.lt),h.m3.block (keep2 b3 (by simp) h.m3.lt),h.m4.block (keep2 b4 (by simp) h.m4.lt),h.m5.block (keep2 b5 (by simp) h.m5.lt),h.nd,h.low,ap⟩
 ·have X1:Box w1 B #[.int .i64 (s 0),.int .i64 (s 1),.int .i64 (s 2),.int .i64 (s 3),.int .i64 (s 4),.int .i64 (s 5),.int .i64 (s 6),.int .i64 (s 7),.int .i64 (s 8),v,.map (some b1),.map (some b2),.map (some b3),.map (some b4),.map (some b5)] 92:=(keep B (by simp) h.box.lt).trans h.box
  exact (X1.setc 9 v').allocd o2
 ·rw [zhW]
  have O2:(w1.setCell ⟨B,9,none⟩ v').ownsRow lo 96 1 v' (k+1) (entL x ce k++[entV (x k).kind (ce k)]):=by
   refine ⟨O1.1,?_⟩
   rcases O1.2 with hn | ⟨g,cap,cur,rfl,q1,q2,q3⟩
   ·exact .inl hn
   ·exact .inr ⟨g,cap,cur,rfl,q1,(heap_setCell_other w1 ⟨B,9,none⟩ g _ (fun e=>ap g rfl (by rw [show g=B from e];simp))).trans q2,q3⟩
  exact O2.alloc o2
theorem Ldg.drawn (h:Ldg w lo B s m k x ce v b1 b2 b3 b4 b5) (q:Nat):Ldg { w with drawn:=q } lo B s m k x ce v b1 b2 b3 b4 b5:=⟨h.box,h.row,h.m1,h.m2,h.m3,h.m4,h.m5,h.nd,h.low,h.apart⟩
theorem Ldg.next {T:List Nat} (h:Ldg w lo B s (k+1) k x ce v b1 b2 b3 b4 b5) (hb:∀ b,b<w.heap.size→b∉T→w2.heap[b]?=w.heap[b]?) (hT:∀ b,b∈T→b∈[b1,b2,b3,b4,b5])
 (m1:MapV w2 9 b1 (k+1) (newF x ce (k+1))) (m2:MapV w2 2 b2 (k+1) (movF x (k+1))) (m3:MapV w2 130 b3 (k+1) (donF x (k+1))) (m4:MapV w2 2 b4 (k+1) (endF x (k+1))) (m5:MapV w2 133 b5 (k+1) (shaF x (k+1))) :
 Ldg w2 lo B s (k+1) (k+1) x ce v b1 b2 b3 b4 b5:=by
 have nB:B∉T:=fun q=>by
  have:=h.nd;rw [List.nodup_cons] at this;exact this.1 (hT B q)
 refine ⟨(hb B h.box.lt nB).trans h.box,⟨h.row.1,?_⟩,m1,m2,m3,m4,m5,h.nd,h.low,h.apart⟩
 rcases h.row.2 with hn | ⟨g,cap,cur,rfl,q1,q2,q3⟩
 ·exact .inl hn
 ·exact .inr ⟨g,cap,cur,rfl,q1,(hb g (Array.getElem?_eq_some_iff.1 q2).1 (fun q=>h.apart g rfl (List.mem_cons_of_mem _ (hT g q)))).trans q2,q3⟩
end
theorem zcf {w w1:World} {lo B:Nat} {s:Nat→Int} {m k:Nat} {x:Nat→RecD} {ce:Nat→List Value} {v:Value} {b1 b2 b3 b4 b5:Nat} {o1:Obj} (h:Ldg w lo B s m k x ce v b1 b2 b3 b4 b5) (g1:(w.alloc o1).grownBy w1 v.ownBlock) (hlo:lo≤w.heap.size):Below lo w w1:=by
 have g0:w.grownBy (w.alloc o1) none:=World.grownBy_alloc _ _ _;refine ⟨g1.os.trans g0.os,g1.tape.trans g0.tape,g1.output.trans g0.output,Nat.le_trans g0.size g1.size,fun b hb=>zdI g0 g1 (by omega) (fun e=>?_)⟩
 rcases h.row.2 with ⟨rfl,_⟩ | ⟨g,cap,cur,rfl,q1,_⟩
 ·cases e
 ·have:b=g:=by simpa [Value.ownBlock] using e
  omega
theorem zga (u:World):(zeroValue 2).run Tryz.prog u=.ok (.int .i64 0) u:=by kernel_rfl
theorem zgW {ops:Array Oper} {o:Oper} {a:Act} {W w':World} {K:Act→World→Prop} {Q:Exit→Act→World→Prop} {F:Prop} (hg:o.guard=none) (t:TypeId) (m x:Operand) (hop:o.op=Op.mapEntry t m x) (b:Nat) (key v:Value) (hm:a.eval m=.map (some b)) (hx:a.eval x=key)
 (hrun:(Instr.mapEntry t (.map (some b)) key).run Tryz.prog W=.ok v w') (hK:K (a.put o.dst v) w'):if Region.wanted o (yielded ops a.tmps)=true then Oper.wp Tryz.prog o a W K Q else F:=by
 have hw:Region.wanted o (yielded ops a.tmps)=true:=by simp [Region.wanted,hg]
 rw [if_pos hw];unfold Oper.wp
 simp [execOp,hop,hm,hx,hrun,Result.andThen]
 exact hK
theorem zfQ {ops:Array Oper} {o:Oper} {a:Act} {W w':World} {K:Act→World→Prop} {Q:Exit→Act→World→Prop} {F:Prop} (hg:o.guard=none) (t:TypeId) (m x y:Operand) (hop:o.op=Op.entryStore t m x y) (b:Nat) (st v:Value) (hm:a.eval m=.map (some b)) (hx:a.eval x=st) (hy:a.eval y=v)
 (hrun:(Instr.entryStore t (.map (some b)) st v).run Tryz.prog W=.ok () w') (hK:K (a.put o.dst undef) w'):if Region.wanted o (yielded ops a.tmps)=true then Oper.wp Tryz.prog o a W K Q else F:=by
 have hw:Region.wanted o (yielded ops a.tmps)=true:=by simp [Region.wanted,hg]
 rw [if_pos hw];unfold Oper.wp
 simp [execOp,hop,hm,hx,hy,hrun,Result.andThen]
 exact hK
theorem zjB:Tryz.prog.follows Departure.mixedOrders=true:=by kernel_rfl
def EntQ (w w':World) (v v':Value) (T:List Nat):Prop:=(v'.ownBlock=v.ownBlock∨∃ g,w.heap.size≤g∧v'.ownBlock=some g)∧∀ b,b<w.heap.size→b∉T→v.ownBlock≠some b→w'.heap[b]?=w.heap[b]?
theorem zcG:(Tryz.prog.info? 96).map (fun i=>(i.zero,i.size,i.bytes))=some (some .nilIface,1,16):=by kernel_rfl
theorem ta00 (u:Value) (w:World):(Instr.typeAssert (.iface 126 u) 96 126 true).run Tryz.prog w=.ok (.tuple #[u,.bool true]) w:=by kernel_rfl
theorem ta10 (u:Value) (w:World):(Instr.typeAssert (.iface 127 u) 96 126 true).run Tryz.prog w=.ok (.tuple #[.agg #[.int .i64 0,.int .i64 0,.string ByteArray.empty,.int .i64 0,.int .i64 0,.int .i64 0,.slice none 0 0,.slice none 0 0,.slice none 0 0],.bool false]) w:=by kernel_rfl
theorem ta11 (u:Value) (w:World):(Instr.typeAssert (.iface 127 u) 96 127 true).run Tryz.prog w=.ok (.tuple #[u,.bool true]) w:=by kernel_rfl
theorem ta20 (u:Value) (w:World):(Instr.typeAssert (.iface 128 u) 96 126 true).run Tryz.prog w=.ok (.tuple #[.agg #[.int .i64 0,.int .i64 0,.string ByteArray.empty,.int .i64 0,.int .i64 0,.int .i64 0,.slice none 0 0,.slice none 0 0,.slice none 0 0],.bool false]) w:=by kernel_rfl
theorem ta21 (u:Value) (w:World):(Instr.typeAssert (.iface 128 u) 96 127 true).run Tryz.prog w=.ok (.tuple #[.agg #[.int .i64 0,.int .i64 0,.string ByteArray.empty,.int .i64 0,.int .i64 0,.int .i64 0,.slice none 0 0,.slice none 0 0,.slice none 0 0],.bool false]) w:=by kernel_rfl
theorem ta22 (u:Value) (w:World):(Instr.typeAssert (.iface 128 u) 96 128 true).run Tryz.prog w=.ok (.tuple #[u,.bool true]) w:=by kernel_rfl
theorem ta30 (u:Value) (w:World):(Instr.typeAssert (.iface 131 u) 96 126 true).run Tryz.prog w=.ok (.tuple #[.agg #[.int .i64 0,.int .i64 0,.string ByteArray.empty,.int .i64 0,.int .i64 0,.int .i64 0,.slice none 0 0,.slice none 0 0,.slice none 0 0],.bool false]) w:=by kernel_rfl
theorem ta31 (u:Value) (w:World):(Instr.typeAssert (.iface 131 u) 96 127 true).run Tryz.prog w=.ok (.tuple #[.agg #[.int .i64 0,.int .i64 0,.string ByteArray.empty,.int .i64 0,.int .i64 0,.int .i64 0,.slice none 0 0,.slice none 0 0,.slice none 0 0],.bool false]) w:=by kernel_rfl
theorem ta32 (u:Value) (w:World):(Instr.typeAssert (.iface 131 u) 96 128 true).run Tryz.prog w=.ok (.tuple #[.agg #[.int .i64 0,.int .i64 0,.string ByteArray.empty,.int .i64 0,.int .i64 0,.int .i64 0,.slice none 0 0,.slice none 0 0,.slice none 0 0],.bool false]) w:=by kernel_rfl
theorem ta33 (u:Value) (w:World):(Instr.typeAssert (.iface 131 u) 96 131 true).run Tryz.prog w=.ok (.tuple #[u,.bool true]) w:=by kernel_rfl
end Go.Proofs.YtecofihpkcljcaaGreat
namespace Go.Proofs.YtecofihpkcljcaaGreat
open Go.RowKit
theorem SL {α : Type} : (∀ (l : List α) (i : Nat) (v : α), l.toArray.setIfInBounds i v = (l.set i v).toArray) ∧ (∀ (a : α) (l : List α) (b : α), (a :: l).set 0 b = b :: l) ∧ (∀ (a : α) (l : List α) (n : Nat) (b : α), (a :: l).set (n + 1) b = a :: l.set n b) ∧ (∀ (l : List α) (i : Nat) (h : i < l.toArray.size), l.toArray[i] = l[i]'(by simpa using h)) ∧ (∀ (a : α) (l : List α) (n : Nat) (h : n + 1 < (a :: l).length), (a :: l)[n + 1] = l[n]'(by simpa using h)) ∧ ∀ (a : α) (l : List α) (h : 0 < (a :: l).length), (a :: l)[0] = a := ⟨fun _ _ _ => List.setIfInBounds_toArray .., fun _ _ _ => rfl, fun _ _ _ _ => rfl, fun _ _ _ => rfl, fun _ _ _ _ => rfl, fun _ _ _ => rfl⟩
section
variable {P:Program} {ops:Array Oper} {Q:Exit→Act→World→Prop} {md:Region.Mode} {S:World→Prop} {L:Nat}
def zaI (P:Program) (md:Region.Mode) (ops:Array Oper) (Q:Exit→Act→World→Prop) (S:World→Prop) (L:Nat):Nat→Array Bool→Act→World→Prop
 | 0,listed,a,w=>Region.ready md ops listed=[]∧Q .normal a w
 | fuel+1,listed,a,w=>
  (Region.ready md ops listed=[]→Q .normal a w)∧
  ∀ i∈Region.ready md ops listed,wpOp P ops Q i (fun a' w'=>((listed.setIfInBounds i true).getD L false=false→S w')∧zaI P md ops Q S L fuel (listed.setIfInBounds i true) a' w') a w
theorem zd4:∀ (fuel:Nat) (listed:Array Bool) (a:Act) (w:World),zaI P md ops Q S L fuel listed a w→wpAny P md ops Q fuel listed a w
 | 0,_,_,_,h=>h
 | fuel+1,_,_,_,h=>⟨h.1,fun i hi=>wpOp_mono (fun a' w' h'=>zd4 fuel _ a' w' h'.2) (h.2 i hi)⟩
theorem ze8 {i:Nat} {oi:Oper} {v:Value} (hi:ops[i]?=some oi) (hsel:∀ (j:Nat) (o:Oper) cs b,ops[j]?=some o→o.op≠.select cs b)
 (hQ:∀ c a w,Q (.panic c) (a.put oi.dst v) w→Q (.panic c) a w) (hLi:L≠i) {n:Nat} (hd:depB md ops n L i=true) :
 ∀ (fuel:Nat) (listed:Array Bool) (a:Act) (w:World),zb9 md ops listed→
  (∀ j oj,ops[j]?=some oj→j≠i→listed.getD j true=false→(∀ e∈oj.after,Region.binds md e=true→e.on≠i)→oi.apart ops oj=true)→
  i∈Region.ready md ops listed→YieldsIf P ops S oi v a→S w→
  zaI P md ops Q S L fuel (listed.setIfInBounds i true) (a.put oi.dst v) w→zaI P md ops Q S L (fuel+1) listed a w:=by
 intro fuel
 induction fuel with
 | zero=>
  intro listed a w _ _ hr hy hS H;refine ⟨fun h=>(by rw [h] at hr;cases hr),fun j hj=>?_⟩
  by_cases hji:j=i
  ·subst hji;exact hy.wpOp hi hS ⟨fun _=>hS,H⟩
  ·have:=ready_mono hj hji
   rw [H.1] at this
   cases this
 | succ fuel ih=>
  intro listed a w hcl hfree hr hy hS H;refine ⟨fun h=>(by rw [h] at hr;cases hr),fun j hj=>?_⟩
  by_cases hji:j=i
  ·subst hji;exact hy.wpOp hi hS ⟨fun _=>hS,H⟩
  ·have hjL:j≠L:=fun h=>by
    subst h;exact zeY hcl hLi hd (zaW (mem_ready.1 hr).1) hj
   have h1:=H.2 j (ready_mono hj hji);obtain ⟨hjun,oj,hoj,hall⟩:=mem_ready.1 hj
   have hnot:∀ e∈oj.after,Region.binds md e=true→e.on≠i:=fun e he hb heq=>by
    have h1:=hall e he hb;have h0:=zaW (mem_ready.1 hr).1;rw [heq,h0] at h1
    cases h1
   have h2:=wpOp_putIf hoj (hfree j oj hoj hji hjun hnot) (fun cs b=>hsel i oi cs b hi) (fun cs b=>hsel j oj cs b hoj) hQ hy h1
   have hfree':∀ k ok,ops[k]?=some ok→k≠i→(listed.setIfInBounds j true).getD k true=false→
    (∀ e∈ok.after,Region.binds md e=true→e.on≠i)→oi.apart ops ok=true:=fun k ok hk hki hun hno=>by
    refine hfree k ok hk hki ?_ hno
    by_cases hjk:j=k
    ·subst hjk;exact hjun
    ·rw [getD_set_ne true hjk] at hun;exact hun
   have hLn:(listed.setIfInBounds j true).getD L false=false:=by
    rw [getD_set_ne false hjL]
    cases hg:listed.getD L false with
    | false=>rfl
    | true=>have:=zdd hcl n L i hd hg;rw [zaW (mem_ready.1 hr).1] at this;cases this
   have hLn2:((listed.setIfInBounds i true).setIfInBounds j true).getD L false=false:=by
    rw [← Array.setIfInBounds_comm _ _ hji,getD_set_ne false (Ne.symm hLi)];exact hLn
   refine wpOp_mono (fun a' w' h3=>⟨fun _=>h3.2.1 hLn2,ih (listed.setIfInBounds j true) a' w' (zca hcl hj) hfree' (ready_mono hr (Ne.symm hji)) h3.1 (h3.2.1 hLn2) ?_⟩) h2;rw [Array.setIfInBounds_comm _ _ hji];exact h3.2.2
theorem zdn {i:Nat} {oi:Oper} {v:Value} (hi:ops[i]?=some oi) (hsel:∀ (j:Nat) (o:Oper) cs b,ops[j]?=some o→o.op≠.select cs b)
 (hQ:∀ c a w,Q (.panic c) (a.put oi.dst v) w→Q (.panic c) a w) (hLi:L≠i) :
 ∀ (fuel:Nat) (listed:Array Bool) (a:Act) (w:World),zb9 md ops listed→
  (∀ j oj,ops[j]?=some oj→j≠i→listed.getD j true=false→(∀ e∈oj.after,Region.binds md e=true→e.on≠i)→oi.apart ops oj=true)→
  i∈Region.ready md ops listed→YieldsIf P ops (fun _=>True) oi v a→((listed.setIfInBounds i true).getD L false=false→S w)→
  zaI P md ops Q S L fuel (listed.setIfInBounds i true) (a.put oi.dst v) w→zaI P md ops Q S L (fuel+1) listed a w:=by
 intro fuel
 induction fuel with
 | zero=>
  intro listed a w _ _ hr hy hS H;refine ⟨fun h=>(by rw [h] at hr;cases hr),fun j hj=>?_⟩
  by_cases hji:j=i
  ·subst hji;exact hy.wpOp hi trivial ⟨hS,H⟩
  ·have:=ready_mono hj hji
   rw [H.1] at this
   cases this
 | succ fuel ih=>
  intro listed a w hcl hfree hr hy hS H;refine ⟨fun h=>(by rw [h] at hr;cases hr),fun j hj=>?_⟩
  by_cases hji:j=i
  ·subst hji;exact hy.wpOp hi trivial ⟨hS,H⟩
  ·skip
   have h1:=H.2 j (ready_mono hj hji);obtain ⟨hjun,oj,hoj,hall⟩:=mem_ready.1 hj
   have hnot:∀ e∈oj.after,Region.binds md e=true→e.on≠i:=fun e he hb heq=>by
    have h1:=hall e he hb;have h0:=zaW (mem_ready.1 hr).1;rw [heq,h0] at h1
    cases h1
   have h2:=wpOp_putIf hoj (hfree j oj hoj hji hjun hnot) (fun cs b=>hsel i oi cs b hi) (fun cs b=>hsel j oj cs b hoj) hQ hy h1
   have hfree':∀ k ok,ops[k]?=some ok→k≠i→(listed.setIfInBounds j true).getD k true=false→
    (∀ e∈ok.after,Region.binds md e=true→e.on≠i)→oi.apart ops ok=true:=fun k ok hk hki hun hno=>by
    refine hfree k ok hk hki ?_ hno
    by_cases hjk:j=k
    ·subst hjk;exact hjun
    ·rw [getD_set_ne true hjk] at hun;exact hun
   refine wpOp_mono (fun a' w' h3=>?_) h2;have hk:((listed.setIfInBounds j true).setIfInBounds i true).getD L false=false→S w':=fun hn=>h3.2.1 (by rw [Array.setIfInBounds_comm _ _ (Ne.symm hji)];exact hn);refine ⟨fun hn=>?_,ih (listed.setIfInBounds j true) a' w' (zca hcl hj) hfree' (ready_mono hr (Ne.symm hji)) h3.1 hk ?_⟩
   ·exact hk (by rw [getD_set_ne false (Ne.symm hLi)];exact hn)
   ·rw [Array.setIfInBounds_comm _ _ hji]
    exact h3.2.2
theorem zaa {i:Nat} {oi:Oper} {v:Value} {fuel:Nat} {listed:Array Bool} {a:Act} {w:World} (hi:ops[i]?=some oi)
 (hs:(Region.noSelect ops&&Region.free md ops listed i&&(Region.ready md ops listed).contains i&&!(L==i)&&zbe md ops listed)=true)
 (hQ:∀ c a w,Q (.panic c) (a.put oi.dst v) w→Q (.panic c) a w) (hy:YieldsIf P ops (fun _=>True) oi v a) (hS:S w)
 (h:zaI P md ops Q S L fuel (listed.setIfInBounds i true) (a.put oi.dst v) w):zaI P md ops Q S L (fuel+1) listed a w:=by
 simp only [Bool.and_eq_true,Bool.not_eq_true',beq_eq_false_iff_ne] at hs
 obtain ⟨⟨⟨⟨h1,h2⟩,h3⟩,h4⟩,h6⟩:=hs;exact zdn hi (Region.noSelect_spec h1) hQ h4 fuel listed a w (zcp h6) (Region.free_spec hi h2) (by simpa using h3) hy (fun _=>hS) h
theorem zac {i:Nat} {oi:Oper} {v:Value} {fuel:Nat} {listed:Array Bool} {a:Act} {w:World} (hi:ops[i]?=some oi)
 (hs:(Region.noSelect ops&&Region.free md ops listed i&&(Region.ready md ops listed).contains i&&!(L==i)&&zbe md ops listed&&listed.getD L false)=true)
 (hQ:∀ c a w,Q (.panic c) (a.put oi.dst v) w→Q (.panic c) a w) (hy:YieldsIf P ops (fun _=>True) oi v a)
 (h:zaI P md ops Q S L fuel (listed.setIfInBounds i true) (a.put oi.dst v) w):zaI P md ops Q S L (fuel+1) listed a w:=by
 simp only [Bool.and_eq_true,Bool.not_eq_true',beq_eq_false_iff_ne] at hs
 obtain ⟨⟨⟨⟨⟨h1,h2⟩,h3⟩,h4⟩,h6⟩,h7⟩:=hs;exact zdn hi (Region.noSelect_spec h1) hQ h4 fuel listed a w (zcp h6) (Region.free_spec hi h2) (by simpa using h3) hy (fun hn=>by rw [getD_set_ne false (Ne.symm h4),h7] at hn;cases hn) h
theorem zad {i:Nat} {oi:Oper} {v:Value} {fuel:Nat} {listed:Array Bool} {a:Act} {w:World} (n:Nat) (hi:ops[i]?=some oi)
 (hs:(Region.noSelect ops&&Region.free md ops listed i&&(Region.ready md ops listed).contains i&&!(L==i)&&depB md ops n L i&&zbe md ops listed)=true)
 (hQ:∀ c a w,Q (.panic c) (a.put oi.dst v) w→Q (.panic c) a w) (hy:YieldsIf P ops S oi v a) (hS:S w)
 (h:zaI P md ops Q S L fuel (listed.setIfInBounds i true) (a.put oi.dst v) w):zaI P md ops Q S L (fuel+1) listed a w:=by
 simp only [Bool.and_eq_true,Bool.not_eq_true',beq_eq_false_iff_ne] at hs
 obtain ⟨⟨⟨⟨⟨h1,h2⟩,h3⟩,h4⟩,h5⟩,h6⟩:=hs;exact ze8 hi (Region.noSelect_spec h1) hQ h4 h5 fuel listed a w (zcp h6) (Region.free_spec hi h2) (by simpa using h3) hy hS h
theorem zjC (i:Nat) {oi:Oper} {v:Value} {fuel:Nat} {listed:Array Bool} {a:Act} {w:World} (hi:ops[i]?=some oi) (hy:∀ w,True→(execOp a.eval oi).run P w=.ok (.value v) w) (h:zaI P md ops Q S L fuel (listed.setIfInBounds i true) (a.put oi.dst v) w) (hs:(Region.noSelect ops && Region.free md ops listed i && (Region.ready md ops listed).contains i && !(L==i) && zbe md ops listed)=true:=by kernel_rfl) (hQ:∀ c a w,Q (.panic c) (a.put oi.dst v) w→Q (.panic c) a w:=by exact fun _ _ _ h=>h) (hw:Region.wanted oi (yielded ops a.tmps)=true:=by first | kernel_rfl | rfl) (hS:S w:=by assumption):zaI P md ops Q S L (fuel+1) listed a w:=zaa hi hs hQ (Or.inl ⟨hw,hy⟩) hS h
theorem zjr (i:Nat) {oi:Oper} {v:Value} {fuel:Nat} {listed:Array Bool} {a:Act} {w:World} (hi:ops[i]?=some oi) (hy:∀ w,True→(execOp a.eval oi).run P w=.ok (.value v) w) (h:zaI P md ops Q S L fuel (listed.setIfInBounds i true) (a.put oi.dst v) w) (hs:(Region.noSelect ops && Region.free md ops listed i && (Region.ready md ops listed).contains i && !(L==i) && zbe md ops listed && listed.getD L false)=true:=by kernel_rfl) (hQ:∀ c a w,Q (.panic c) (a.put oi.dst v) w→Q (.panic c) a w:=by exact fun _ _ _ h=>h) (hw:Region.wanted oi (yielded ops a.tmps)=true:=by first | kernel_rfl | rfl):zaI P md ops Q S L (fuel+1) listed a w:=zac hi hs hQ (Or.inl ⟨hw,hy⟩) h
theorem zjD (i:Nat) {oi:Oper} {v:Value} {fuel:Nat} {listed:Array Bool} {a:Act} {w:World} (hi:ops[i]?=some oi) (hy:∀ w,S w→(execOp a.eval oi).run P w=.ok (.value v) w) (h:zaI P md ops Q S L fuel (listed.setIfInBounds i true) (a.put oi.dst v) w) (hs:(Region.noSelect ops && Region.free md ops listed i && (Region.ready md ops listed).contains i && !(L==i) && depB md ops 16 L i && zbe md ops listed)=true:=by kernel_rfl) (hQ:∀ c a w,Q (.panic c) (a.put oi.dst v) w→Q (.panic c) a w:=by exact fun _ _ _ h=>h) (hw:Region.wanted oi (yielded ops a.tmps)=true:=by first | kernel_rfl | rfl) (hS:S w:=by assumption):zaI P md ops Q S L (fuel+1) listed a w:=zad 16 hi hs hQ (Or.inl ⟨hw,hy⟩) hS h
theorem zjE (i:Nat) {oi:Oper} {v:Value} {fuel:Nat} {listed:Array Bool} {a:Act} {w:World} (hi:ops[i]?=some oi) (h:zaI P md ops Q S L fuel (listed.setIfInBounds i true) (a.put oi.dst v) w) (hy:∀ w,True→(execOp a.eval oi).run P w=.ok (.value v) w:=by intro w' hSw;go_simp;try with_reducible rfl) (hs:(Region.noSelect ops && Region.free md ops listed i && (Region.ready md ops listed).contains i && !(L==i) && zbe md ops listed)=true:=by kernel_rfl) (hQ:∀ c a w,Q (.panic c) (a.put oi.dst v) w→Q (.panic c) a w:=by exact fun _ _ _ h=>h) (hw:Region.wanted oi (yielded ops a.tmps)=true:=by first | kernel_rfl | rfl) (hS:S w:=by assumption):zaI P md ops Q S L (fuel+1) listed a w:=zaa hi hs hQ (Or.inl ⟨hw,hy⟩) hS h
theorem zjF (i:Nat) {oi:Oper} {v:Value} {fuel:Nat} {listed:Array Bool} {a:Act} {w:World} (hi:ops[i]?=some oi) (h:zaI P md ops Q S L fuel (listed.setIfInBounds i true) (a.put oi.dst v) w) (hy:∀ w,S w→(execOp a.eval oi).run P w=.ok (.value v) w:=by intro w' hSw;(try dsimp only at hSw);(repeat (have _q:=And.left hSw;replace hSw:=And.right hSw));go_simp;try with_reducible rfl) (hs:(Region.noSelect ops && Region.free md ops listed i && (Region.ready md ops listed).contains i && !(L==i) && depB md ops 16 L i && zbe md ops listed)=true:=by kernel_rfl) (hQ:∀ c a w,Q (.panic c) (a.put oi.dst v) w→Q (.panic c) a w:=by exact fun _ _ _ h=>h) (hw:Region.wanted oi (yielded ops a.tmps)=true:=by first | kernel_rfl | rfl) (hS:S w:=by assumption):zaI P md ops Q S L (fuel+1) listed a w:=zad 16 hi hs hQ (Or.inl ⟨hw,hy⟩) hS h
theorem zjG (i:Nat) {oi:Oper} {fuel:Nat} {listed:Array Bool} {a:Act} {w:World} (hi:ops[i]?=some oi) (h:zaI P md ops Q S L fuel (listed.setIfInBounds i true) (a.put oi.dst undef) w) (hs:(Region.noSelect ops && Region.free md ops listed i && (Region.ready md ops listed).contains i && !(L==i) && zbe md ops listed)=true:=by kernel_rfl) (hQ:∀ c a w,Q (.panic c) (a.put oi.dst undef) w→Q (.panic c) a w:=by exact fun _ _ _ h=>h) (hw:Region.wanted oi (yielded ops a.tmps)=false:=by kernel_rfl) (hS:S w:=by assumption):zaI P md ops Q S L (fuel+1) listed a w:=zaa hi hs hQ (Or.inr ⟨hw,rfl⟩) hS h
theorem zae {i:Nat} {o:Oper} {fuel:Nat} {listed:Array Bool} {a:Act} {w:World} (ho:ops[i]?=some o) (hr:Region.ready md ops listed=[i]) (hL:(listed.setIfInBounds i true).getD L false=true)
 (h:∀ K':Act→World→Prop,Shut (∀ a w,zaI P md ops Q S L fuel (listed.setIfInBounds i true) a w→K' a w)→if Region.wanted o (yielded ops a.tmps)=true then Oper.wp P o a w K' Q else K' (a.put o.dst undef) w):zaI P md ops Q S L (fuel+1) listed a w:=by
 refine ⟨fun h0=>(by rw [hr] at h0;cases h0),fun j hj=>?_⟩;rw [hr] at hj
 obtain rfl:j=i:=by simpa using hj
 exact wpOp_step ho (fun K' hK=>h K' (fun a w hW=>hK a w ⟨fun hn=>(by rw [hL] at hn;cases hn),hW⟩))
theorem zah {listed:Array Bool} {a:Act} {w:World} (hr:Region.ready md ops listed=[]) (h:Q .normal a w):∀ fuel,zaI P md ops Q S L fuel listed a w
 | 0=>⟨hr,h⟩
 | _+1=>⟨fun _=>h,by rw [hr];simp⟩
theorem zap {id:Nat} {a:Act} {w:World} (L:Nat) (S:World→Prop) (hm:P.follows .mixedOrders=true) (hS:S w.drew)
 (h:S w.drew→zaI P .any ops Q S L ops.size (Array.replicate ops.size false) a w.drew):(Code.region id ops true).wp P Q a w:=
 wp_region_any hm (zd4 _ _ _ _ (h hS))
theorem zaZ {i:Nat} {o:Oper} {fuel:Nat} {listed:Array Bool} {a:Act} {w:World} (ho:ops[i]?=some o) (hr:Region.ready md ops listed=[i]) (hL:(listed.setIfInBounds i true).getD L false=true) (hg:o.guard=none) (hd:o.dst=none) (T:TypeId) (x y:Operand) (hop:o.op=.store T x y)
 (b off:Nat) (cells:List Value) (hx:a.eval x=.pointer (some ⟨b,off,none⟩)) (hy:a.eval y=.agg cells.toArray) (ht:w.there b off cells.length) (hi:(P.info? T).map (·.size)=some cells.length) (h1:∀ v,v∈cells→v.oneCell'=true)
 (h:zaI P md ops Q S L fuel (listed.setIfInBounds i true) a (w.setCells b off cells)):zaI P md ops Q S L (fuel+1) listed a w:=by
 refine zae ho hr hL (fun KC hKC=>?_)
 have hw:Region.wanted o (yielded ops a.tmps)=true:=by simp [Region.wanted,hg]
 rw [if_pos hw];refine wp_store_mid T x y hop b off cells.toArray hx hy (by simpa using ht) (by simpa using hi) (by simpa using h1) ?_
 have e:a.put o.dst undef=a:=by rw [hd];rfl
 rw [e];exact hKC _ _ h
end
section
variable {P:Program} {ops:Array Oper} {Q:Exit→Act→World→Prop} {md:Region.Mode} {S:World→Prop} {L:Nat}
theorem zax {i:Nat} {o:Oper} {fuel:Nat} {listed:Array Bool} {a:Act} {w:World} (ho:ops[i]?=some o) (hr:Region.ready md ops listed=[i])
 (h:∀ K':Act→World→Prop,Shut (∀ a w,S w→zaI P md ops Q S L fuel (listed.setIfInBounds i true) a w→K' a w)→if Region.wanted o (yielded ops a.tmps)=true then Oper.wp P o a w K' Q else K' (a.put o.dst undef) w):zaI P md ops Q S L (fuel+1) listed a w:=by
 refine ⟨fun h0=>(by rw [hr] at h0;cases h0),fun j hj=>?_⟩;rw [hr] at hj
 obtain rfl:j=i:=by simpa using hj
 exact wpOp_step ho (fun K' hK=>h K' (fun a w hS hW=>hK a w ⟨fun _=>hS,hW⟩))
theorem za5 {i j:Nat} {o o':Oper} {fuel:Nat} {listed:Array Bool} {a:Act} {w:World} (ho:ops[i]?=some o) (ho':ops[j]?=some o') (hr:Region.ready md ops listed=[i,j])
 (h:∀ K':Act→World→Prop,Shut (∀ a w,S w→zaI P md ops Q S L fuel (listed.setIfInBounds i true) a w→K' a w)→if Region.wanted o (yielded ops a.tmps)=true then Oper.wp P o a w K' Q else K' (a.put o.dst undef) w)
 (h':∀ K':Act→World→Prop,Shut (∀ a w,S w→zaI P md ops Q S L fuel (listed.setIfInBounds j true) a w→K' a w)→if Region.wanted o' (yielded ops a.tmps)=true then Oper.wp P o' a w K' Q else K' (a.put o'.dst undef) w):zaI P md ops Q S L (fuel+1) listed a w:=by
 refine ⟨fun h0=>(by rw [hr] at h0;cases h0),fun k hk=>?_⟩;rw [hr] at hk
 simp only [List.mem_cons,List.not_mem_nil,or_false] at hk
 rcases hk with rfl | rfl
 ·exact wpOp_step ho (fun K' hK=>h K' (fun a w hS hW=>hK a w ⟨fun _=>hS,hW⟩))
 ·exact wpOp_step ho' (fun K' hK=>h' K' (fun a w hS hW=>hK a w ⟨fun _=>hS,hW⟩))
end
theorem za6 {ops:Array Oper} {o:Oper} {a:Act} {W:World} {K:Act→World→Prop} {Q:Exit→Act→World→Prop} {F:Prop} (hg:o.guard=none) (hop:o.op=Op.buildSlice 47 0 #[])
 (hK:K (a.put o.dst (.slice (some ⟨W.heap.size,0,none⟩) 0 0)) (W.alloc (.cells #[] 59))):if Region.wanted o (yielded ops a.tmps)=true then Oper.wp Tryz.prog o a W K Q else F:=by
 have hw:Region.wanted o (yielded ops a.tmps)=true:=by simp [Region.wanted,hg]
 rw [if_pos hw];unfold Oper.wp execOp
 simp only [hop]
 go_simp;exact hK
theorem zfR {ops:Array Oper} {o:Oper} {a:Act} {W:World} {K:Act→World→Prop} {Q:Exit→Act→World→Prop} {F:Prop} (hg:o.guard=none) (x:Operand) (hop:o.op=Op.buildSlice 47 1 #[(0,x)]) (r:RecD) (b6 b7 b8:Option Addr) (bk6 bk7 bk8:Nat) (hx:a.eval x=.agg #[.int .i64 r.kind,.int .i64 r.seq,.string r.name,.int .i64 r.length,.int .i64 r.group,.int .i64 r.row,.slice b6 r.rows.1 bk6,.slice b7 r.data.1 bk7,.slice b8 r.delta.1 bk8])
 (hK:K (a.put o.dst (.slice (some ⟨W.heap.size,0,none⟩) 1 1)) (W.alloc (.cells #[.int .i64 r.kind,.int .i64 r.seq,.string r.name,.int .i64 r.length,.int .i64 r.group,.int .i64 r.row,.slice b6 r.rows.1 bk6,.slice b7 r.data.1 bk7,.slice b8 r.delta.1 bk8] 59))):if Region.wanted o (yielded ops a.tmps)=true then Oper.wp Tryz.prog o a W K Q else F:=by
 have hw:Region.wanted o (yielded ops a.tmps)=true:=by simp [Region.wanted,hg]
 rw [if_pos hw];unfold Oper.wp execOp
 simp only [hop,List.map_toArray,List.map_cons,List.map_nil,hx]
 go_simp;exact hK
theorem zaG {ops:Array Oper} {o:Oper} {a:Act} {W:World} {K:Act→World→Prop} {Q:Exit→Act→World→Prop} {F:Prop} (hg:o.guard=none) (x:Operand) (hop:o.op=Op.buildSlice 47 1 #[(0,x)]) {w0:World} {hi0:Nat} {r:RecD} {cs:List Value} (hr:zab.rd w0 hi0 r cs) (hx:a.eval x=.agg cs.toArray)
 (hK:K (a.put o.dst (.slice (some ⟨W.heap.size,0,none⟩) 1 1)) (W.alloc (.cells cs.toArray 59))):if Region.wanted o (yielded ops a.tmps)=true then Oper.wp Tryz.prog o a W K Q else F:=by
 obtain ⟨b6,bk6,b7,bk7,b8,bk8,rfl,-⟩:=zaz hr;exact zfR hg x hop r b6 b7 b8 bk6 bk7 bk8 hx hK
end Go.Proofs.YtecofihpkcljcaaGreat
