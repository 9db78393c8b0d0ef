/- What is right of a record and of a world, in plain words. -/
import Derived.Test.YtcepcjkfdonclaaZPnewarab
import Derived.Test.YtcepcjkfdonclaaZPnewarad
import Derived.Test.YtcepcjkfdonclaaZPnewarac
import Derived.Test.YtcepcjkfdonclaaProg
import Derived.Test.YtcepcjkfdonclaaZPnewaraa
import Derived.WalkLawsBesides
import Derived.Lib.QuietBelow
import Derived.Deep.RegionLaw
import Derived.Deep.DeepCutAuto
set_option linter.unusedVariables false
set_option linter.unusedSimpArgs false
namespace Go.Proofs.Ytcepcjkfdonclaa
open Go.RowKit F256
def InP (x a b:Int):Prop:=a ≤ x ∧ x ≤ b
def ApartP (n:Nat) (g:Nat → Int) (most:Int):Prop:=∀ i,i < n → InP (g i) 0 most ∧ ∀ t,t < i → g t ≠ g i
def ItemP (s:Nat → Int) (r:RecD):Prop :=
  (r.length = -1 ∧ r.data.1 = 0 ∧ r.rows.1 = 0) ∨
  (r.length ≠ -1 ∧ 1 ≤ r.length ∧ r.length ≤ 3 * (s 2 * 4) ∧
    ((0 < r.data.1 ∧ (r.data.1:Int) = r.length ∧ r.rows.1 = 0) ∨
     (r.data.1 = 0 ∧ (r.rows.1:Int) = (r.length + s 2 * 4 - 1) / (s 2 * 4) ∧ ApartP r.rows.1 r.rows.2 (s 4 - 1))))
def MoveP (s:Nat → Int) (r:RecD):Prop:=InP r.group 0 (s 0 - 1) ∧ InP r.row 0 (s 4 - 1) ∧ (r.data.1:Int) = s 2 * 4 ∧ (r.delta.1:Int) = s 2 * 4
def DoneP (s:Nat → Int) (r:RecD):Prop:=InP r.group 0 (s 0 + s 1 - 1)
def WeightsP (s:Nat → Int) (r:RecD):Prop:=(r.delta.1:Int) = s 0 + s 1 ∧ r.delta.2 r.group.toNat = 0 ∧ ∀ i,i < r.rows.1 → r.delta.2 (r.rows.2 i).toNat ≠ 0
def ShareP (s:Nat → Int) (r:RecD):Prop:=InP r.group 0 (s 0 + s 1 - 1) ∧ InP r.row 0 (s 4 - 1) ∧ RiseP r.rows.1 r.rows.2 (s 0 + s 1 - 1) ∧ (r.data.1:Int) = s 2 * 4 ∧ WeightsP s r
def KindP (s:Nat → Int) (r:RecD):Prop:=(r.kind = 1 ∧ ItemP s r) ∨ (r.kind = 2 ∧ MoveP s r) ∨ (r.kind = 3 ∧ DoneP s r) ∨ (r.kind = 4 ∧ ShareP s r)
def noName (r:RecD):Prop:=r.name = ByteArray.empty ∧ r.length = 0
def BlankP (r:RecD):Prop :=
  (r.kind = 1 ∧ r.group = 0 ∧ r.row = 0 ∧ r.delta.1 = 0) ∨ (r.kind = 2 ∧ noName r ∧ r.rows.1 = 0) ∨
  (r.kind = 3 ∧ noName r ∧ r.row = 0 ∧ r.rows.1 = 0 ∧ r.data.1 = 0 ∧ r.delta.1 = 0) ∨ (r.kind = 4 ∧ noName r)
def NamedP (r:RecD):Prop:=r.kind = 1 → OkName r.name
def Stair:List (Prop × Int) → (Int → Prop) → Int → Prop
  | [],K,x => K x
  | (p,c) :: l,K,x => (¬ p ∧ x = c) ∨ (p ∧ Stair l K x)
def isZ (x:Int):Prop:=x = 0
def RecAns (s:Nat → Int) (r:RecD) (x:Int):Prop :=
  Stair [(OkShape s,3),(InP r.kind 1 4,5),(InP r.seq 1 1000000000,3),(NamedP r,5),(KindP s r,3),(BlankP r,1)] isZ x
def BlockP (b:BlockD):Prop:=InP b.stamp 0 1000000000 ∧ b.bytes.1 = 4
def BlocksP (s:Nat → Int) (p:Nat × (Nat → BlockD)):Prop:=(p.1:Int) = s 4 ∧ ∀ i,i < p.1 → BlockP (p.2 i)
def DrivesP (s:Nat → Int) (p:Nat × (Nat → DriveD)):Prop:=(p.1:Int) = s 2 + s 3 ∧ ∀ i,i < p.1 → BlocksP s (p.2 i).blocks
def BuiltP (d:WorldD):Prop:=(d.groups.1:Int) = d.shape 0 + d.shape 1 ∧ ∀ i,i < d.groups.1 → DrivesP d.shape (d.groups.2 i)
def OnP (d:WorldD):Prop:=ApartP d.on.1 d.on.2 (d.shape 0 + d.shape 1 - 1) ∧ (d.on.1:Int) ≤ d.shape 5 ∧ (d.down = true → d.on.1 = 0)
def FormP (d:WorldD):Prop:=BuiltP d ∧ OnP d ∧ d.tapes.1 = 2
def FewP (d:WorldD):Prop:=∀ t,t < d.tapes.1 → (d.tapes.2 t).recs.1 ≤ 200
def CleanP (d:WorldD):Prop:=∀ t,t < d.tapes.1 → (d.tapes.2 t).wiped = true → (d.tapes.2 t).recs.1 = 0
def CountP (d:WorldD):Prop:=InP d.writes 0 1000000000 ∧ InP d.stop (-1) 1000000000
structure OkWorld (d:WorldD):Prop where
  shape:OkShape d.shape
  form:FormP d
  few:FewP d
  recs:∀ t,t < d.tapes.1 → ∀ i,i < (d.tapes.2 t).recs.1 → RecAns d.shape ((d.tapes.2 t).recs.2 i) 0
  clean:CleanP d
  count:CountP d
end Go.Proofs.Ytcepcjkfdonclaa
namespace Go.Proofs.Ytcepcjkfdonclaa
open Go.RowKit F256
end Go.Proofs.Ytcepcjkfdonclaa
namespace Go.Proofs.Ytcepcjkfdonclaa
open Go.RowKit F256
end Go.Proofs.Ytcepcjkfdonclaa
namespace Go.Proofs.Ytcepcjkfdonclaa
open Go.RowKit F256
structure WQ (P:Program) (ops:Array Oper) (C:World → Prop) (Q:Act → Prop) (l:List Oper) (a:Act):Prop where
  out:wpQuiet P ops C Q l a
end Go.Proofs.Ytcepcjkfdonclaa
namespace Go.Proofs.Ytcepcjkfdonclaa
open Go.RowKit F256
end Go.Proofs.Ytcepcjkfdonclaa
namespace Go.Proofs.Ytcepcjkfdonclaa
open Go.RowKit F256
end Go.Proofs.Ytcepcjkfdonclaa
namespace Go.Proofs.Ytcepcjkfdonclaa
open Go.RowKit F256
end Go.Proofs.Ytcepcjkfdonclaa
namespace Go.Proofs.Ytcepcjkfdonclaa
open Go.RowKit F256
theorem l5All_any (s:Nat → Int) (h:OkShape s) (w:World) :
    Calls Try.prog 22 #[shapeV s] w fun e w' => e = .returned (.int .i64 (s 0 + s 1)) ∧ Below w.heap.size w w':=by
  obtain ⟨h1,h2,_⟩:=h;unfold Shp3 at h1;have B0:=(one_new w #[.int .i64 (s 0),.int .i64 (s 1),.int .i64 (s 2),.int .i64 (s 3),.int .i64 (s 4),.int .i64 (s 5),.int .i64 (s 6),.int .i64 (s 7),.int .i64 (s 8)] 24).bel;unfold shapeV
  have hw:-9223372036854775808 ≤ s 0 + s 1 ∧ s 0 + s 1 ≤ 9223372036854775807:=by omega
  go_enter Try.func22,Try.ntmps22
  go_wp2;go_ret;exact ⟨rfl,B0⟩
theorem l5Drives_any (s:Nat → Int) (h:OkShape s) (w:World) :
    Calls Try.prog 23 #[shapeV s] w fun e w' => e = .returned (.int .i64 (s 2 + s 3)) ∧ Below w.heap.size w w':=by
  obtain ⟨h1,h2,_⟩:=h;unfold Shp at h2;have B0:=(one_new w #[.int .i64 (s 0),.int .i64 (s 1),.int .i64 (s 2),.int .i64 (s 3),.int .i64 (s 4),.int .i64 (s 5),.int .i64 (s 6),.int .i64 (s 7),.int .i64 (s 8)] 24).bel;unfold shapeV
  have hw:-9223372036854775808 ≤ s 2 + s 3 ∧ s 2 + s 3 ≤ 9223372036854775807:=by omega
  go_enter Try.func23,Try.ntmps23
  go_wp2;go_ret;exact ⟨rfl,B0⟩
end Go.Proofs.Ytcepcjkfdonclaa
namespace Go.Proofs.Ytcepcjkfdonclaa
open Go.RowKit F256
end Go.Proofs.Ytcepcjkfdonclaa
namespace Go.Proofs.Ytcepcjkfdonclaa
open Go.RowKit F256
end Go.Proofs.Ytcepcjkfdonclaa
namespace Go.Proofs.Ytcepcjkfdonclaa
open Go.RowKit F256
theorem groupCount_any (s:Nat → Int) (h:OkShape s) (w:World) :
    Calls Try.prog 26 #[shapeV s] w fun e w' => e = .returned (.int .i64 (s 0 + s 1)) ∧ Below w.heap.size w w':=by
  obtain ⟨h1,h2,_⟩:=h;unfold Shp3 at h1;have B0:=(one_new w #[.int .i64 (s 0),.int .i64 (s 1),.int .i64 (s 2),.int .i64 (s 3),.int .i64 (s 4),.int .i64 (s 5),.int .i64 (s 6),.int .i64 (s 7),.int .i64 (s 8)] 24).bel;unfold shapeV
  have hw:-9223372036854775808 ≤ s 0 + s 1 ∧ s 0 + s 1 ≤ 9223372036854775807:=by omega
  go_enter Try.func26,Try.ntmps26
  go_wp2;go_ret;exact ⟨rfl,B0⟩
theorem driveCount_any (s:Nat → Int) (h:OkShape s) (w:World) :
    Calls Try.prog 27 #[shapeV s] w fun e w' => e = .returned (.int .i64 (s 2 + s 3)) ∧ Below w.heap.size w w':=by
  obtain ⟨h1,h2,_⟩:=h;unfold Shp at h2;have B0:=(one_new w #[.int .i64 (s 0),.int .i64 (s 1),.int .i64 (s 2),.int .i64 (s 3),.int .i64 (s 4),.int .i64 (s 5),.int .i64 (s 6),.int .i64 (s 7),.int .i64 (s 8)] 24).bel;unfold shapeV
  have hw:-9223372036854775808 ≤ s 2 + s 3 ∧ s 2 + s 3 ≤ 9223372036854775807:=by omega
  go_enter Try.func27,Try.ntmps27
  go_wp2;go_ret;exact ⟨rfl,B0⟩
theorem okB {s:Nat → Int} (h:OkShape s):1 ≤ s 0 ∧ s 0 ≤ 4 ∧ 0 ≤ s 1 ∧ s 1 ≤ 2 ∧ 1 ≤ s 2 ∧ s 2 ≤ 3 ∧ 0 ≤ s 3 ∧ s 3 ≤ 2 ∧ 1 ≤ s 4 ∧ s 4 ≤ 6 ∧ 1 ≤ s 5 ∧ s 5 ≤ 6:=by
  obtain ⟨h1,h2,h3,h4,_⟩:=h;unfold Shp3 at h1;unfold Shp at h2;omega
end Go.Proofs.Ytcepcjkfdonclaa
namespace Go.Proofs.Ytcepcjkfdonclaa
open Go.RowKit F256
structure ElInfo {α:Type} (E:Lay α) (T e:TypeId) (by_:Nat) (zs:List Value):Prop where
  hs:0 < E.sz
  hzs:zs.length = E.sz
  hu:Try.prog.underlying T = some (.slice e)
  hi:(Try.prog.info? e).map (fun i => (i.zero.map (·.cells),i.size,i.bytes)) = some (some zs.toArray,E.sz,by_)
  few:by_ ≤ 1000
def Gat {α:Type} (E:Lay α) (t:TypeId) (w:World) (lo:Nat) (v:Value) (n:Nat) (x:Nat → α):Prop:=∃ ce Ls,SlG E t w lo v n x ce Ls
section
variable {α:Type} {E:Lay α} {t:TypeId} {w w':World} {lo n:Nat} {v:Value} {x:Nat → α}
theorem Gat.nil (x:Nat → α) (w:World) (lo:Nat):Gat E t w lo (.slice none 0 0) 0 x:=⟨_,_,SlG.nil x w lo⟩
theorem Gat.form (h:Gat E t w lo v n x):∃ ao cap,v = .slice ao n cap:=by
  obtain ⟨ce,Ls,h⟩:=h
  rcases h.row.2 with ⟨hv,hn⟩ | ⟨g,cap,cur,rfl,_⟩
  · exact ⟨none,0,by rw [hv,hn]⟩
  · exact ⟨_,_,rfl⟩
theorem Gat.below (h:Gat E t w lo v n x) (hb:Below w.heap.size w w'):Gat E t w' lo v n x:=by
  obtain ⟨ce,Ls,h⟩:=h;exact ⟨ce,Ls,h.below hb⟩
theorem Gat.own (h:Gat E t w lo v n x):OwnT (E.slice t) w lo w.heap.size (n,x) [v]:=by
  obtain ⟨ce,Ls,h⟩:=h;exact h.own
theorem Gat.congr {y:Nat → α} (h:Gat E t w lo v n x) (hy:∀ i,i < n → x i = y i):Gat E t w lo v n y:=by
  obtain ⟨ce,Ls,h⟩:=h;exact ⟨ce,Ls,h.row,fun i hi => by rw [← hy i hi];exact h.each i hi,h.nd,h.low⟩
theorem SlG.mem_low {ce:Nat → List Value} {Ls:Nat → List Nat} (h:SlG E t w lo v n x ce Ls):∀ b,b ∈ v.ownBlock.toList ++ catN n Ls → lo ≤ b:=fun b hb => by
  rcases List.mem_append.1 hb with h1 | h1
  · exact (h.row.lt b (by simpa using h1)).1
  · exact h.low b h1
theorem Gat.set (h:Gat E t w lo v n x) (b j:Nat) (u:Value) (hb:b < lo):Gat E t (w.setCell ⟨b,j,none⟩ u) lo v n x:=by
  obtain ⟨ce,Ls,h⟩:=h;exact ⟨ce,Ls,h.kept (fun k hk => heap_setCell_other w ⟨b,j,none⟩ k u (by have:=h.mem_low k hk;show k ≠ b;omega))⟩
theorem gat_lit0 (x:Nat → α) (w:World):Gat E t (w.alloc (.cells #[] t)) w.heap.size (.slice (some ⟨w.heap.size,0,none⟩) 0 0) 0 x:=by
  have h:=World.ownsRow_lit (base:=w.heap.size) (e:=t) (size:=E.sz) w #[] 0 (Nat.le_refl _) (Nat.zero_le _) (by simp);exact ⟨fun _ => [],fun _ => [],by simpa [catN_zero] using h,fun i hi => by omega,by simp [Value.ownBlock,catN_zero],fun b hb => by rw [catN_zero] at hb;cases hb⟩
end
theorem cells_new (w:World) (cs:List Value) (t:TypeId) (j:Nat):(w.alloc (.cells cs.toArray t)).cell? ⟨w.heap.size,j,none⟩ = cs[j]?:=by
  simp
theorem run_appendN {α:Type} {E:Lay α} {T e:TypeId} {by_:Nat} {zs:List Value} (I:ElInfo E T e by_ zs) (ty:TypeId) {w1 w2 W:World} {lo n:Nat} {v:Value} {x:Nat → α} (hG:Gat E e w1 lo v n x)
    (hb:Below w1.heap.size w1 w2) {d:α} {cs:List Value} (ha:OwnT E w2 w1.heap.size w2.heap.size d cs) (hW:Below w2.heap.size w2 W) (b c:Nat) (hcell:∀ j,j < E.sz → W.cell? ⟨b,j,none⟩ = cs[j]?) (hlo:lo ≤ w1.heap.size) (hn:n ≤ 10000000) :
    ∃ v' w',(Builtin.append_ #[T,T] ty #[v,.slice (some ⟨b,0,none⟩) 1 c]).run Try.prog W = .ok v' w' ∧ Gat E e w' lo v' (n + 1) (upd x n d) ∧ Below lo w1 w':=by
  obtain ⟨hs,hzs,hu,hi,few⟩:=I
  obtain ⟨i0,hi0⟩:∃ i0,Try.prog.info? e = some i0:=by
    cases h:Try.prog.info? e with
    | none => rw [h] at hi;cases hi
    | some i0 => exact ⟨i0,rfl⟩
  rw [hi0] at hi
  simp only [Option.map_some,Option.some.injEq,Prod.mk.injEq] at hi
  obtain ⟨h1,h2,h3⟩:=hi
  obtain ⟨z,hz,hzc⟩:∃ z,i0.zero = some z ∧ z.cells = zs.toArray:=by
    cases h:i0.zero with
    | none => rw [h] at h1;cases h1
    | some z => rw [h] at h1;exact ⟨z,rfl,by simpa using h1⟩
  obtain ⟨ce,Ls,hG1⟩:=hG;have hbW:Below w1.heap.size w1 W:=hb.trans (hW.mono hb.size);have hG2:SlG E e W lo v n x ce Ls:=hG1.below hbW;obtain ⟨K,a1,a2,a3⟩:=ha;have ha':E.own W d cs K:=E.own_kept a1 (fun k hk => hW.block k (E.own_lt a1 k hk));have hcs:=E.own_len a1
  obtain ⟨v',w',hr,r1,r2,r3,r4⟩:=run_append_own_at (P:=Try.prog) W lo T ty e i0 z E.sz by_ hu hi0 hz h2 h3 (by rw [hzc];simpa using hzs) hs v n (catN n ce) hG2.row ⟨b,0,none⟩ 1 c cs (by rw [hcs,Nat.one_mul])
    (fun j u hj => by
      have hlt:j < cs.length:=(List.getElem?_eq_some_iff.1 hj).1;have:=hcell j (by omega);rw [hj] at this;rw [add_o]
      exact this) (E.own_one ha') (by unfold maxLen;omega) (by
        have:(n + 1) * by_ ≤ 10000001 * 1000:=Nat.mul_le_mul (by omega) few
        omega) (Nat.le_trans hlo hbW.size)
  refine ⟨v',w',hr,⟨_,_,hG2.grown ha' a2 (fun k hk => ?_) r1 r2 r4⟩,?_⟩
  · have h5:=(a3 k hk).1
    exact ⟨by omega,fun hh => by have:=hG1.mem_lt k hh;omega⟩
  · exact (hbW.mono hlo).grown r2 (Nat.le_trans hlo hbW.size) (fun k hk => (hG2.row.lt k hk).1)
theorem wp_appendN {α:Type} {E:Lay α} {T e:TypeId} {by_:Nat} {zs:List Value} (I:ElInfo E T e by_ zs) {w1 w2 W:World} {ops:Array Oper} {rest:List Oper} {o:Oper} {a:Act} {Q:Exit → Act → World → Prop}
    (hg:o.guard = none) (s y:Operand) (hop:o.op = Op.call { callee:=Callee.builtin Builtin.append,args:=#[s,y],argTypes:=#[T,T] })
    {lo n:Nat} {v:Value} {x:Nat → α} (hev:a.eval s = v) (hG:Gat E e w1 lo v n x)
    (hb:Below w1.heap.size w1 w2) {d:α} {cs:List Value} (ha:OwnT E w2 w1.heap.size w2.heap.size d cs) (hW:Below w2.heap.size w2 W) (b c:Nat) (hx:a.eval y = .slice (some ⟨b,0,none⟩) 1 c) (hcell:∀ j,j < E.sz → W.cell? ⟨b,j,none⟩ = cs[j]?) (hlo:lo ≤ w1.heap.size) (hn:n ≤ 10000000)
    (hK:∀ v' w',Gat E e w' lo v' (n + 1) (upd x n d) → Below lo w1 w' → wpList Try.prog ops Q rest (a.put o.dst v') w'):wpList Try.prog ops Q (o :: rest) a W:=by
  refine wpList_plain hg fun K hK' => ?_;obtain ⟨v',w',hrun,r1,r2⟩:=run_appendN I o.type hG hb ha hW b c hcell hlo hn;unfold Oper.wp
  simp [execOp,hop,resolve,invoke,builtin,hev,hx,hrun,Result.andThen]
  exact hK' _ _ (hK v' w' r1 r2)
theorem step_appendN {α:Type} {E:Lay α} {T e:TypeId} {by_:Nat} {zs:List Value} (I:ElInfo E T e by_ zs) {w1 w2 W:World} {ops:Array Oper} {o:Oper} {a:Act} {K:Act → World → Prop} {Q:Exit → Act → World → Prop} {F:Prop}
    (hg:o.guard = none) (s y:Operand) (hop:o.op = Op.call { callee:=Callee.builtin Builtin.append,args:=#[s,y],argTypes:=#[T,T] })
    {lo n:Nat} {v:Value} {x:Nat → α} (hev:a.eval s = v) (hG:Gat E e w1 lo v n x)
    (hb:Below w1.heap.size w1 w2) {d:α} {cs:List Value} (ha:OwnT E w2 w1.heap.size w2.heap.size d cs) (hW:Below w2.heap.size w2 W) (b c:Nat) (hx:a.eval y = .slice (some ⟨b,0,none⟩) 1 c) (hcell:∀ j,j < E.sz → W.cell? ⟨b,j,none⟩ = cs[j]?) (hlo:lo ≤ w1.heap.size) (hn:n ≤ 10000000)
    (hK:∀ v' w',Gat E e w' lo v' (n + 1) (upd x n d) → Below lo w1 w' → K (a.put o.dst v') w') :
    if Region.wanted o (yielded ops a.tmps) = true then Oper.wp Try.prog o a W K Q else F:=by
  have hw:Region.wanted o (yielded ops a.tmps) = true:=by simp [Region.wanted,hg]
  rw [if_pos hw];obtain ⟨v',w',hrun,r1,r2⟩:=run_appendN I o.type hG hb ha hW b c hcell hlo hn;unfold Oper.wp
  simp [execOp,hop,resolve,invoke,builtin,hev,hx,hrun,Result.andThen]
  exact hK v' w' r1 r2
end Go.Proofs.Ytcepcjkfdonclaa
namespace Go.Proofs.Ytcepcjkfdonclaa
open Go.RowKit F256
section
variable {α:Type} {E:Lay α} {t:TypeId} {w w1:World} {lo g cap n k:Nat} {x:Nat → α} {ce:Nat → List Value} {Ls:Nat → List Nat}
theorem SlP.poke (h:SlP E t w lo g cap n k x ce Ls) {i j:Nat} (hk:k ≤ i) (hi:i < n) (hj:j < E.sz) (u:Value):SlP E t (w.setCell ⟨g,i * E.sz + j,none⟩ u) lo g cap n k x (upd ce i ((ce i).set j u)) Ls:=by
  refine ⟨?_,fun m hm => ?_,fun m hm => ?_,h.nd,h.low⟩
  · have:=(h.row.stored (i * E.sz + j) u).1
    rw [catN_set h.lens hi hj] at this;exact this
  · by_cases c:m = i
    · subst c;rw [upd_at,List.length_set];exact h.lens m hm
    · rw [upd_ne ce _ c];exact h.lens m hm
  · rw [upd_ne ce _ (by omega)]
    exact E.own_kept (h.each m hm) (fun b hb => heap_setCell_other w _ b u (fun hh => (List.nodup_cons.1 h.nd).1 (by rw [← show b = g from hh];exact mem_catN.2 ⟨m,hm,hb⟩)))
theorem SlP.count {x1:Nat → α} {ce1:Nat → List Value} (h1:SlP E t w1 lo g cap n k x1 ce1 Ls) (h:SlP E t w lo g cap n k x ce Ls) {a:α} {K:List Nat} (ha:E.own w a (ce k) K) (hnd:K.Nodup) (hK:∀ b,b ∈ K → w1.heap.size ≤ b) (hlo:lo ≤ w1.heap.size) :
    SlP E t w lo g cap n (k + 1) (upd x k a) ce (upd Ls k K):=by
  have eL:catN (k + 1) (upd Ls k K) = catN k Ls ++ K:=by
    rw [catN_succ,upd_at,catN_congr (g:=Ls) (fun i hi => upd_ne Ls K (by omega))]
  refine ⟨h.row,h.lens,fun i hi => ?_,?_,?_⟩
  · by_cases c:i = k
    · subst c;rw [upd_at,upd_at];exact ha
    · rw [upd_ne x a c,upd_ne Ls K c];exact h.each i (by omega)
  · rw [eL]
    refine List.nodup_cons.2 ⟨fun hb => ?_,List.nodup_append.2 ⟨(List.nodup_cons.1 h.nd).2,hnd,fun b hb c hc hh => ?_⟩⟩
    · rcases List.mem_append.1 hb with h3 | h3
      · exact (List.nodup_cons.1 h.nd).1 h3
      · have:=hK g h3;have:=h1.lt;omega
    · subst hh
      have k1:=h1.mem_lt b hb;have k2:=hK b hc;omega
  · rw [eL]
    intro b hb
    rcases List.mem_append.1 hb with h3 | h3
    · exact h.low b h3
    · have:=hK b h3;omega
theorem SlP.fill (h1:SlP E t w1 lo g cap n k x ce Ls) (hb:Below w1.heap.size w1 w) (hk:k < n) {j:Nat} (hj:j < E.sz) (u:Value) {a:α} {cs:List Value} (hcs:(ce k).set j u = cs) (ha:OwnT E w w1.heap.size w.heap.size a cs) (hlo:lo ≤ w1.heap.size) :
    ∃ ce' Ls',SlP E t (w.setCell ⟨g,k * E.sz + j,none⟩ u) lo g cap n (k + 1) (upd x k a) ce' Ls' ∧ ∀ i,k < i → ce' i = ce i:=by
  subst hcs;obtain ⟨K,a1,a2,a3⟩:=ha;have hg:=h1.lt;refine ⟨_,_,h1.count ((h1.below hb).poke (Nat.le_refl k) hk hj u) (K:=K) ?_ a2 (fun b hb => (a3 b hb).1) hlo,fun i hi => upd_ne ce _ (by omega)⟩;rw [upd_at];exact E.own_kept a1 (fun b hb => heap_setCell_other w _ b u (fun hh => by have:=(a3 b hb).1;have h5:b = g:=hh;omega))
theorem SlP.congr {y:Nat → α} (h:SlP E t w lo g cap n k x ce Ls) (hy:∀ i,i < k → x i = y i):SlP E t w lo g cap n k y ce Ls:=⟨h.row,h.lens,fun i hi => by rw [← hy i hi];exact h.each i hi,h.nd,h.low⟩
end
theorem run_makeT {α:Type} {E:Lay α} {T e:TypeId} {by_:Nat} {zs:List Value} (I:ElInfo E T e by_ zs) (x:Nat → α) (Ls:Nat → List Nat) (w:World) (n:Nat) (hn:n ≤ 10000000) :
    ∃ w',(Instr.makeSlice T (.int .i64 (n:Int)) (.int .i64 (n:Int))).run Try.prog w = .ok (.slice (some ⟨w.heap.size,0,none⟩) n n) w' ∧ SlP E e w' w.heap.size w.heap.size n n 0 x (fun _ => zs) Ls ∧ Below w.heap.size w w':=by
  obtain ⟨hs,hzs,hu,hi,few⟩:=I
  obtain ⟨i0,hi0⟩:∃ i0,Try.prog.info? e = some i0:=by
    cases h:Try.prog.info? e with
    | none => rw [h] at hi;cases hi
    | some i0 => exact ⟨i0,rfl⟩
  rw [hi0] at hi
  simp only [Option.map_some,Option.some.injEq,Prod.mk.injEq] at hi
  obtain ⟨h1,h2,h3⟩:=hi
  obtain ⟨z,hz,hzc⟩:∃ z,i0.zero = some z ∧ z.cells = zs.toArray:=by
    cases h:i0.zero with
    | none => rw [h] at h1;cases h1
    | some z => rw [h] at h1;exact ⟨z,rfl,by simpa using h1⟩
  obtain ⟨w',hrun,hown,hgrow⟩:=run_make_full (P:=Try.prog) w w.heap.size T e i0 z E.sz hu hi0 hz h2 .i64 .i64 n (by
    rw [h3];have:by_ * n ≤ 1000 * 10000000:=Nat.mul_le_mul few hn
    omega) (by unfold maxLen;omega) (Nat.le_refl _)
  rw [hzc,← hzs,catN_made zs (by omega)] at hown;rw [hzs] at hown;exact ⟨w',hrun,⟨hown,fun _ _ => hzs,fun i hi => by omega,by simp [catN_zero],fun b hb => by rw [catN_zero] at hb;cases hb⟩,below_of_grown hgrow⟩
end Go.Proofs.Ytcepcjkfdonclaa
namespace Go.Proofs.Ytcepcjkfdonclaa
open Go.RowKit F256
def NilRow (w:World) (v:Value) (n:Nat):Prop:=n ≤ 6 ∧ ∃ ao cap,v = .slice ao n cap ∧ (n ≠ 0 → ∃ b off,ao = some ⟨b,off,none⟩ ∧ ∀ i,i < n → w.cell? ⟨b,off + i,none⟩ = some (.slice none 0 0))
theorem NilRow.below {w w':World} {v:Value} {n:Nat} (h:NilRow w v n) (hb:Below w.heap.size w w'):NilRow w' v n:=by
  obtain ⟨h1,ao,cap,rfl,h2⟩:=h;refine ⟨h1,ao,cap,rfl,fun hn => ?_⟩;obtain ⟨b,off,rfl,h3⟩:=h2 hn;refine ⟨b,off,rfl,fun i hi => ?_⟩;have:=h3 i hi;rw [hb.cell (block_lt_of_cell this)];exact this
theorem nilRow_stN {w:World} {b n cap:Nat} (h:NilRow w (.slice (some ⟨b,0,none⟩) n cap) n) {g:Nat} (hg:g ≠ b) (off:Nat) (l:List Value):NilRow (stN w g off l) (.slice (some ⟨b,0,none⟩) n cap) n:=by
  obtain ⟨h1,ao,cap',hv,h2⟩:=h
  cases hv
  refine ⟨h1,_,_,rfl,fun hn => ?_⟩;obtain ⟨b',off',hb,h3⟩:=h2 hn
  cases hb
  refine ⟨_,_,rfl,fun i hi => ?_⟩
  have e:(stN w g off l).cell? ⟨b,0 + i,none⟩ = w.cell? ⟨b,0 + i,none⟩:=by
    unfold World.cell?
    simp only [stN_heap g b (Ne.symm hg) l w off]
  rw [e];exact h3 i hi
def NilLo (v:Value) (lo:Nat):Prop:=∀ a n cap,v = .slice (some a) n cap → lo ≤ a.block
theorem nilRow_none (w:World):NilRow w (.slice none 0 0) 0:=⟨by omega,none,0,rfl,fun h => absurd rfl h⟩
theorem nilRow_made {w:World} {lo g n:Nat} {x:Nat → Nat × (Nat → Int)} {Ls:Nat → List Nat} {t:TypeId} (hn:n ≤ 6) (h:SlP layInts t w lo g n n 0 x (fun _ => [.slice none 0 0]) Ls):NilRow w (.slice (some ⟨g,0,none⟩) n n) n:=by
  refine ⟨hn,_,_,rfl,fun _ => ⟨g,0,rfl,fun i hi => ?_⟩⟩;have:=h.cell hi (show 0 < layInts.sz by decide);rw [show layInts.sz = 1 from rfl,Nat.mul_one,Nat.add_zero] at this;rw [Nat.zero_add];exact this
def NdAns (s:Nat → Int) (c:Int) (n:Nat) (x:Int):Prop:=(¬ OkShape s ∧ c = 3 ∧ n = 0 ∧ x = 0) ∨ (OkShape s ∧ c = 0 ∧ (n:Int) = s 0 + s 1 ∧ x = 1)
theorem info_TS:(Try.prog.info? 31).map (fun i => (i.zero.map (·.cells),i.size,i.bytes)) = some (some #[.slice none 0 0],1,24):=by kernel_rfl
set_option maxHeartbeats 4000000 in
theorem specNewDesk_any (s:Nat → Int) (w:World) :
    Calls Try.prog 12 #[shapeV s] w fun e w' => ∃ c n x v,e = .returned (.agg #[.int .i64 c,v,.slice none 0 0,.slice none 0 0,.int .i64 0,.int .i64 x]) ∧ NdAns s c n x ∧ NilRow w' v n ∧ Below w.heap.size w w' ∧ NilLo v w.heap.size:=by
  have CS:=specShape_any s;have T0:=two_newb w #[.int .i64 (s 0),.int .i64 (s 1),.int .i64 (s 2),.int .i64 (s 3),.int .i64 (s 4),.int .i64 (s 5),.int .i64 (s 6),.int .i64 (s 7),.int .i64 (s 8)] #[.int .i64 0,.slice none 0 0,.slice none 0 0,.slice none 0 0,.int .i64 0,.int .i64 0] 24 49
  unfold shapeV at *
  go_enter Try.func12,Try.ntmps12
  go_wp2_with fail
  refine (CS _).mono ?_;rintro e w1 ⟨x,rfl,hx,b1⟩;have HT1:Hid (Two w w1 #[.int .i64 (s 0),.int .i64 (s 1),.int .i64 (s 2),.int .i64 (s 3),.int .i64 (s 4),.int .i64 (s 5),.int .i64 (s 6),.int .i64 (s 7),.int .i64 (s 8)] #[.int .i64 0,.slice none 0 0,.slice none 0 0,.slice none 0 0,.int .i64 0,.int .i64 0] 24 49):=T0.call b1;clear T0 b1 CS;have T1:=HT1.out;have z1:w.heap.size + 1 < w1.heap.size:=T1.b2.lt;obtain ⟨x0,x1,x2,x3,x4,x5,x6,x7,x8⟩:=box9 T1.b1;have y0:w1.cell? ⟨w.heap.size + 1,0,none⟩ = some (.int .i64 0):=T1.b2.cell 0;have yf0:w1.frozen? ⟨w.heap.size + 1,0,none⟩ = false:=T1.b2.frozen 0;have y1:w1.cell? ⟨w.heap.size + 1,1,none⟩ = some (.slice none 0 0):=T1.b2.cell 1;have yf1:w1.frozen? ⟨w.heap.size + 1,1,none⟩ = false:=T1.b2.frozen 1;have y2:w1.cell? ⟨w.heap.size + 1,2,none⟩ = some (.slice none 0 0):=T1.b2.cell 2;have yf2:w1.frozen? ⟨w.heap.size + 1,2,none⟩ = false:=T1.b2.frozen 2;have y3:w1.cell? ⟨w.heap.size + 1,3,none⟩ = some (.slice none 0 0):=T1.b2.cell 3;have yf3:w1.frozen? ⟨w.heap.size + 1,3,none⟩ = false:=T1.b2.frozen 3;have y4:w1.cell? ⟨w.heap.size + 1,4,none⟩ = some (.int .i64 0):=T1.b2.cell 4;have yf4:w1.frozen? ⟨w.heap.size + 1,4,none⟩ = false:=T1.b2.frozen 4;have y5:w1.cell? ⟨w.heap.size + 1,5,none⟩ = some (.int .i64 0):=T1.b2.cell 5;have yf5:w1.frozen? ⟨w.heap.size + 1,5,none⟩ = false:=T1.b2.frozen 5;clear T1
  rcases hx with ⟨rfl,hx⟩ | ⟨rfl,hx⟩
  · have HN:Hid (¬ OkShape s):=hx
    clear hx;go_wp2;refine bodyPost_ret (v:=.agg #[.int .i64 3,.slice none 0 0,.slice none 0 0,.slice none 0 0,.int .i64 0,.int .i64 0]) (by simp [results,Try.results12,go_sem,y0,y1,y2,y3,y4,y5]) rfl ⟨3,0,0,_,rfl,.inl ⟨HN.out,rfl,rfl,rfl⟩,nilRow_none _,?_,fun a n cap h => by cases h⟩;exact HT1.out.bel.trans (stN_below (w:=w1) (g:=w.heap.size + 1) (B:=w.heap.size) (by omega) [.int .i64 3,.slice none 0 0,.slice none 0 0,.slice none 0 0,.int .i64 0,.int .i64 0] 0)
  · have HOK:Hid (OkShape s):=hx
    clear hx;have CA:=l5All_any s HOK.out;unfold shapeV at CA
    go_wp2_with fail
    refine (CA _).mono ?_;rintro e w2 ⟨rfl,b2⟩;have HT2:Hid (Two w w2 #[.int .i64 (s 0),.int .i64 (s 1),.int .i64 (s 2),.int .i64 (s 3),.int .i64 (s 4),.int .i64 (s 5),.int .i64 (s 6),.int .i64 (s 7),.int .i64 (s 8)] #[.int .i64 0,.slice none 0 0,.slice none 0 0,.slice none 0 0,.int .i64 0,.int .i64 0] 24 49):=HT1.out.call b2;have hO:=okB HOK.out;obtain ⟨n,hn⟩:∃ n:Nat,s 0 + s 1 = (n:Int):=⟨(s 0 + s 1).toNat,by omega⟩
    have hn6:n ≤ 6:=by omega
    have HA:Hid (NdAns s 0 n 1):=.inr ⟨HOK.out,rfl,hn.symm,rfl⟩;rw [hn];clear hn hO b2 x0 x1 x2 x3 x4 x5 x6 x7 x8 y0 y1 y2 y3 y4 y5 yf0 yf1 yf2 yf3 yf4 yf5 HT1 CA;have hg:w.heap.size + 1 < w2.heap.size:=HT2.out.b2.lt
    go_wp2_with (at_make;refine wp_makeT layInts [.slice none 0 0] _ 31 24 (by decide) rfl Try.underlying30 info_TS (fun _ => (0,fun _ => 0)) (fun _ => []) _ rfl _ _ rfl _ _ n rfl rfl rfl rfl (by omega) (by unfold maxLen;omega) ?_;intro w3 sp3 b3;have HR:Hid (NilRow w3 (.slice (some ⟨w2.heap.size,0,none⟩) n n) n):=nilRow_made hn6 sp3;have T3:=HT2.out.call b3;have HB3:Hid (Below w.heap.size w w3):=T3.bel;have y0:w3.cell? ⟨w.heap.size + 1,0,none⟩ = some (.int .i64 0):=T3.b2.cell 0;have yf0:w3.frozen? ⟨w.heap.size + 1,0,none⟩ = false:=T3.b2.frozen 0;have y1:w3.cell? ⟨w.heap.size + 1,1,none⟩ = some (.slice none 0 0):=T3.b2.cell 1;have yf1:w3.frozen? ⟨w.heap.size + 1,1,none⟩ = false:=T3.b2.frozen 1;have y2:w3.cell? ⟨w.heap.size + 1,2,none⟩ = some (.slice none 0 0):=T3.b2.cell 2;have yf2:w3.frozen? ⟨w.heap.size + 1,2,none⟩ = false:=T3.b2.frozen 2;have y3:w3.cell? ⟨w.heap.size + 1,3,none⟩ = some (.slice none 0 0):=T3.b2.cell 3;have yf3:w3.frozen? ⟨w.heap.size + 1,3,none⟩ = false:=T3.b2.frozen 3;have y4:w3.cell? ⟨w.heap.size + 1,4,none⟩ = some (.int .i64 0):=T3.b2.cell 4;have yf4:w3.frozen? ⟨w.heap.size + 1,4,none⟩ = false:=T3.b2.frozen 4;have y5:w3.cell? ⟨w.heap.size + 1,5,none⟩ = some (.int .i64 0):=T3.b2.cell 5;have yf5:w3.frozen? ⟨w.heap.size + 1,5,none⟩ = false:=T3.b2.frozen 5;clear T3 sp3 b3)
    refine bodyPost_ret (v:=.agg #[.int .i64 0,.slice (some ⟨w2.heap.size,0,none⟩) n n,.slice none 0 0,.slice none 0 0,.int .i64 0,.int .i64 1]) (by simp [results,Try.results12,go_sem,y0,y1,y2,y3,y4,y5]) rfl ⟨0,n,1,_,rfl,HA.out,?_,?_,fun a n' cap h => by cases h;show w.heap.size ≤ w2.heap.size;omega⟩
    · exact nilRow_stN HR.out (g:=w.heap.size + 1) (by omega) 0 [.int .i64 0,.slice (some ⟨w2.heap.size,0,none⟩) n n,.slice none 0 0,.slice none 0 0,.int .i64 0,.int .i64 1]
    · exact HB3.out.trans (stN_below (w:=w3) (g:=w.heap.size + 1) (B:=w.heap.size) (by omega) [.int .i64 0,.slice (some ⟨w2.heap.size,0,none⟩) n n,.slice none 0 0,.slice none 0 0,.int .i64 0,.int .i64 1] 0)
set_option maxHeartbeats 4000000 in
theorem implNewDesk_any (s:Nat → Int) (w:World) :
    Calls Try.prog 15 #[shapeV s] w fun e w' => ∃ c n x v,e = .returned (.agg #[.int .i64 c,v,.slice none 0 0,.slice none 0 0,.int .i64 0,.int .i64 x]) ∧ NdAns s c n x ∧ NilRow w' v n ∧ Below w.heap.size w w' ∧ NilLo v w.heap.size:=by
  have CS:=implShape_any s;have T0:=two_newb w #[.int .i64 (s 0),.int .i64 (s 1),.int .i64 (s 2),.int .i64 (s 3),.int .i64 (s 4),.int .i64 (s 5),.int .i64 (s 6),.int .i64 (s 7),.int .i64 (s 8)] #[.int .i64 0,.slice none 0 0,.slice none 0 0,.slice none 0 0,.int .i64 0,.int .i64 0] 24 49
  unfold shapeV at *
  go_enter Try.func15,Try.ntmps15
  go_wp2_with fail
  refine (CS _).mono ?_;rintro e w1 ⟨x,rfl,hx,b1⟩;have HT1:Hid (Two w w1 #[.int .i64 (s 0),.int .i64 (s 1),.int .i64 (s 2),.int .i64 (s 3),.int .i64 (s 4),.int .i64 (s 5),.int .i64 (s 6),.int .i64 (s 7),.int .i64 (s 8)] #[.int .i64 0,.slice none 0 0,.slice none 0 0,.slice none 0 0,.int .i64 0,.int .i64 0] 24 49):=T0.call b1;clear T0 b1 CS;have T1:=HT1.out;have z1:w.heap.size + 1 < w1.heap.size:=T1.b2.lt;obtain ⟨x0,x1,x2,x3,x4,x5,x6,x7,x8⟩:=box9 T1.b1;have y0:w1.cell? ⟨w.heap.size + 1,0,none⟩ = some (.int .i64 0):=T1.b2.cell 0;have yf0:w1.frozen? ⟨w.heap.size + 1,0,none⟩ = false:=T1.b2.frozen 0;have y1:w1.cell? ⟨w.heap.size + 1,1,none⟩ = some (.slice none 0 0):=T1.b2.cell 1;have yf1:w1.frozen? ⟨w.heap.size + 1,1,none⟩ = false:=T1.b2.frozen 1;have y2:w1.cell? ⟨w.heap.size + 1,2,none⟩ = some (.slice none 0 0):=T1.b2.cell 2;have yf2:w1.frozen? ⟨w.heap.size + 1,2,none⟩ = false:=T1.b2.frozen 2;have y3:w1.cell? ⟨w.heap.size + 1,3,none⟩ = some (.slice none 0 0):=T1.b2.cell 3;have yf3:w1.frozen? ⟨w.heap.size + 1,3,none⟩ = false:=T1.b2.frozen 3;have y4:w1.cell? ⟨w.heap.size + 1,4,none⟩ = some (.int .i64 0):=T1.b2.cell 4;have yf4:w1.frozen? ⟨w.heap.size + 1,4,none⟩ = false:=T1.b2.frozen 4;have y5:w1.cell? ⟨w.heap.size + 1,5,none⟩ = some (.int .i64 0):=T1.b2.cell 5;have yf5:w1.frozen? ⟨w.heap.size + 1,5,none⟩ = false:=T1.b2.frozen 5;clear T1
  rcases hx with ⟨rfl,hx⟩ | ⟨rfl,hx⟩
  · have HN:Hid (¬ OkShape s):=hx
    clear hx;go_wp2;refine bodyPost_ret (v:=.agg #[.int .i64 3,.slice none 0 0,.slice none 0 0,.slice none 0 0,.int .i64 0,.int .i64 0]) (by simp [results,Try.results15,go_sem,y0,y1,y2,y3,y4,y5]) rfl ⟨3,0,0,_,rfl,.inl ⟨HN.out,rfl,rfl,rfl⟩,nilRow_none _,?_,fun a n cap h => by cases h⟩;exact HT1.out.bel.trans (stN_below (w:=w1) (g:=w.heap.size + 1) (B:=w.heap.size) (by omega) [.int .i64 3,.slice none 0 0,.slice none 0 0,.slice none 0 0,.int .i64 0,.int .i64 0] 0)
  · have HOK:Hid (OkShape s):=hx
    clear hx;have CA:=groupCount_any s HOK.out;unfold shapeV at CA
    go_wp2_with fail
    refine (CA _).mono ?_;rintro e w2 ⟨rfl,b2⟩;have HT2:Hid (Two w w2 #[.int .i64 (s 0),.int .i64 (s 1),.int .i64 (s 2),.int .i64 (s 3),.int .i64 (s 4),.int .i64 (s 5),.int .i64 (s 6),.int .i64 (s 7),.int .i64 (s 8)] #[.int .i64 0,.slice none 0 0,.slice none 0 0,.slice none 0 0,.int .i64 0,.int .i64 0] 24 49):=HT1.out.call b2;have hO:=okB HOK.out;obtain ⟨n,hn⟩:∃ n:Nat,s 0 + s 1 = (n:Int):=⟨(s 0 + s 1).toNat,by omega⟩
    have hn6:n ≤ 6:=by omega
    have HA:Hid (NdAns s 0 n 1):=.inr ⟨HOK.out,rfl,hn.symm,rfl⟩;rw [hn];clear hn hO b2 x0 x1 x2 x3 x4 x5 x6 x7 x8 y0 y1 y2 y3 y4 y5 yf0 yf1 yf2 yf3 yf4 yf5 HT1 CA;have hg:w.heap.size + 1 < w2.heap.size:=HT2.out.b2.lt
    go_wp2_with (at_make;refine wp_makeT layInts [.slice none 0 0] _ 31 24 (by decide) rfl Try.underlying30 info_TS (fun _ => (0,fun _ => 0)) (fun _ => []) _ rfl _ _ rfl _ _ n rfl rfl rfl rfl (by omega) (by unfold maxLen;omega) ?_;intro w3 sp3 b3;have HR:Hid (NilRow w3 (.slice (some ⟨w2.heap.size,0,none⟩) n n) n):=nilRow_made hn6 sp3;have T3:=HT2.out.call b3;have HB3:Hid (Below w.heap.size w w3):=T3.bel;have y0:w3.cell? ⟨w.heap.size + 1,0,none⟩ = some (.int .i64 0):=T3.b2.cell 0;have yf0:w3.frozen? ⟨w.heap.size + 1,0,none⟩ = false:=T3.b2.frozen 0;have y1:w3.cell? ⟨w.heap.size + 1,1,none⟩ = some (.slice none 0 0):=T3.b2.cell 1;have yf1:w3.frozen? ⟨w.heap.size + 1,1,none⟩ = false:=T3.b2.frozen 1;have y2:w3.cell? ⟨w.heap.size + 1,2,none⟩ = some (.slice none 0 0):=T3.b2.cell 2;have yf2:w3.frozen? ⟨w.heap.size + 1,2,none⟩ = false:=T3.b2.frozen 2;have y3:w3.cell? ⟨w.heap.size + 1,3,none⟩ = some (.slice none 0 0):=T3.b2.cell 3;have yf3:w3.frozen? ⟨w.heap.size + 1,3,none⟩ = false:=T3.b2.frozen 3;have y4:w3.cell? ⟨w.heap.size + 1,4,none⟩ = some (.int .i64 0):=T3.b2.cell 4;have yf4:w3.frozen? ⟨w.heap.size + 1,4,none⟩ = false:=T3.b2.frozen 4;have y5:w3.cell? ⟨w.heap.size + 1,5,none⟩ = some (.int .i64 0):=T3.b2.cell 5;have yf5:w3.frozen? ⟨w.heap.size + 1,5,none⟩ = false:=T3.b2.frozen 5;clear T3 sp3 b3)
    refine bodyPost_ret (v:=.agg #[.int .i64 0,.slice (some ⟨w2.heap.size,0,none⟩) n n,.slice none 0 0,.slice none 0 0,.int .i64 0,.int .i64 1]) (by simp [results,Try.results15,go_sem,y0,y1,y2,y3,y4,y5]) rfl ⟨0,n,1,_,rfl,HA.out,?_,?_,fun a n' cap h => by cases h;show w.heap.size ≤ w2.heap.size;omega⟩
    · exact nilRow_stN HR.out (g:=w.heap.size + 1) (by omega) 0 [.int .i64 0,.slice (some ⟨w2.heap.size,0,none⟩) n n,.slice none 0 0,.slice none 0 0,.int .i64 0,.int .i64 1]
    · exact HB3.out.trans (stN_below (w:=w3) (g:=w.heap.size + 1) (B:=w.heap.size) (by omega) [.int .i64 0,.slice (some ⟨w2.heap.size,0,none⟩) n n,.slice none 0 0,.slice none 0 0,.int .i64 0,.int .i64 1] 0)
theorem eqTicketS_nil (w:World):Calls Try.prog 42 #[.slice none 0 0,.slice none 0 0] w fun e w' => e = .returned (.bool true) ∧ w' = w:=by
  go_enter Try.func42,Try.ntmps42
  go_wp2
  go_loopw [5] (fun i wr => i = .int .i64 0 ∧ wr = w) (fun _ _ => 0)
  case atStart => exact ⟨rfl,rfl⟩
  case round =>
    obtain ⟨rfl,rfl⟩:=hrel;go_wp2;go_ret;exact ⟨rfl,rfl⟩
theorem eqAnswerS_nil (w:World):Calls Try.prog 43 #[.slice none 0 0,.slice none 0 0] w fun e w' => e = .returned (.bool true) ∧ w' = w:=by
  go_enter Try.func43,Try.ntmps43
  go_wp2
  go_loopw [5] (fun i wr => i = .int .i64 0 ∧ wr = w) (fun _ _ => 0)
  case atStart => exact ⟨rfl,rfl⟩
  case round =>
    obtain ⟨rfl,rfl⟩:=hrel;go_wp2;go_ret;exact ⟨rfl,rfl⟩
theorem markTicketS_nil (K:Int) (w:World):Calls Try.prog 48 #[.slice none 0 0,.int .i64 K] w fun e w' => e = .returned (.int .i64 K) ∧ w' = w:=by
  go_enter Try.func48,Try.ntmps48
  go_wp2
  go_loopw [1,5] (fun k i wr => k = .int .i64 K ∧ i = .int .i64 0 ∧ wr = w) (fun _ _ _ => 0)
  case atStart => exact ⟨rfl,rfl,rfl⟩
  case round =>
    obtain ⟨rfl,rfl,rfl⟩:=hrel;go_wp2;go_ret;exact ⟨rfl,rfl⟩
theorem markAnswerS_nil (K:Int) (w:World):Calls Try.prog 49 #[.slice none 0 0,.int .i64 K] w fun e w' => e = .returned (.int .i64 K) ∧ w' = w:=by
  go_enter Try.func49,Try.ntmps49
  go_wp2
  go_loopw [1,5] (fun k i wr => k = .int .i64 K ∧ i = .int .i64 0 ∧ wr = w) (fun _ _ _ => 0)
  case atStart => exact ⟨rfl,rfl,rfl⟩
  case round =>
    obtain ⟨rfl,rfl,rfl⟩:=hrel;go_wp2;go_ret;exact ⟨rfl,rfl⟩
theorem heldTicketS_nil (K:Int) (w:World):Calls Try.prog 54 #[.slice none 0 0,.int .i64 K] w fun e w' => e = .returned (.int .i64 K) ∧ w' = w:=by
  go_enter Try.func54,Try.ntmps54
  go_wp2
  go_loopw [1,5] (fun k i wr => k = .int .i64 K ∧ i = .int .i64 0 ∧ wr = w) (fun _ _ _ => 0)
  case atStart => exact ⟨rfl,rfl,rfl⟩
  case round =>
    obtain ⟨rfl,rfl,rfl⟩:=hrel;go_wp2;go_ret;exact ⟨rfl,rfl⟩
theorem heldAnswerS_nil (K:Int) (w:World):Calls Try.prog 55 #[.slice none 0 0,.int .i64 K] w fun e w' => e = .returned (.int .i64 K) ∧ w' = w:=by
  go_enter Try.func55,Try.ntmps55
  go_wp2
  go_loopw [1,5] (fun k i wr => k = .int .i64 K ∧ i = .int .i64 0 ∧ wr = w) (fun _ _ _ => 0)
  case atStart => exact ⟨rfl,rfl,rfl⟩
  case round =>
    obtain ⟨rfl,rfl,rfl⟩:=hrel;go_wp2;go_ret;exact ⟨rfl,rfl⟩
set_option maxHeartbeats 4000000 in
theorem eqTicketSS_nils {v1 v2:Value} {n:Nat} {w:World} (r1:NilRow w v1 n) (r2:NilRow w v2 n):Calls Try.prog 41 #[v1,v2] w fun e w' => e = .returned (.bool true) ∧ Below w.heap.size w w':=by
  obtain ⟨hn,ao,cap,rfl,hc⟩:=r1;obtain ⟨-,ao',cap',rfl,hc'⟩:=r2
  go_enter Try.func41,Try.ntmps41
  go_wp2
  go_loopw [5] (fun i wr => ∃ k:Nat,k ≤ n ∧ i = .int .i64 k ∧ Below w.heap.size w wr) (fun i _ => n - (intOf i).toNat)
  case atStart => exact ⟨0,Nat.zero_le _,rfl,Below.refl _ _⟩
  case round =>
    obtain ⟨k,hk,rfl,hb⟩:=hrel
    by_cases hlt:k < n
    · obtain ⟨b,off,rfl,hel⟩:=hc (by omega)
      obtain ⟨b',off',rfl,hel'⟩:=hc' (by omega)
      have c0:wr.cell? ⟨b,off + k,none⟩ = some (.slice none 0 0):=by
        have:=hel k hlt;rw [hb.cell (block_lt_of_cell this)];exact this
      have e0:wr.cell? ⟨b',off' + k,none⟩ = some (.slice none 0 0):=by
        have:=hel' k hlt;rw [hb.cell (block_lt_of_cell this)];exact this
      have C1:=eqTicketS_nil (wr.drewN 1);clear hc hc' hel hel';go_wp2
      go_region_with (go_at_call 42;refine C1.mono ?_;rintro ee w2 ⟨rfl,hb2⟩)
      all_goals
        have R':Below w.heap.size w (wr.drewN 1):=below_drewN hb 1;clear hb2;go_wp2
        go_roundw
        case rel => exact ⟨k + 1,by omega,by go_num,R'⟩
        case measure => simp [intOf];omega
    · obtain rfl:k = n:=by omega
      go_wp2;go_ret;exact ⟨rfl,hb⟩
set_option maxHeartbeats 4000000 in
theorem markTicketSS_nils {v:Value} {n:Nat} {w:World} (r:NilRow w v n) {K:Int} (hK:¬ K < 0):Calls Try.prog 47 #[v,.int .i64 K] w fun e w' => e = .returned (.int .i64 K) ∧ Below w.heap.size w w':=by
  obtain ⟨hn,ao,cap,rfl,hc⟩:=r
  go_enter Try.func47,Try.ntmps47
  go_wp2
  go_loopw [1,5] (fun q i wr => ∃ k:Nat,k ≤ n ∧ i = .int .i64 k ∧ q = .int .i64 K ∧ Below w.heap.size w wr) (fun _ i _ => n - (intOf i).toNat)
  case atStart => exact ⟨0,Nat.zero_le _,rfl,rfl,Below.refl _ _⟩
  case round =>
    obtain ⟨k,hk,rfl,rfl,hb⟩:=hrel
    by_cases hlt:k < n
    · obtain ⟨b,off,rfl,hel⟩:=hc (by omega)
      have c0:wr.cell? ⟨b,off + k,none⟩ = some (.slice none 0 0):=by
        have:=hel k hlt;rw [hb.cell (block_lt_of_cell this)];exact this
      clear hc hel
      go_wp2_with fail
      refine (markTicketS_nil K _).mono ?_;rintro e w2 ⟨rfl,hb2⟩
      have R':Below w.heap.size w w2:=by rw [hb2];exact hb
      clear hb2;go_wp2
      go_roundw
      case rel => exact ⟨k + 1,by omega,by go_num,rfl,R'⟩
      case measure => simp [intOf];omega
    · obtain rfl:k = n:=by omega
      go_wp2;go_ret;exact ⟨rfl,hb⟩
set_option maxHeartbeats 4000000 in
theorem heldTicketSS_nils {v:Value} {n:Nat} {w:World} (r:NilRow w v n) {K:Int} (hK:¬ K < 0):Calls Try.prog 53 #[v,.int .i64 K] w fun e w' => e = .returned (.int .i64 K) ∧ Below w.heap.size w w':=by
  obtain ⟨hn,ao,cap,rfl,hc⟩:=r
  go_enter Try.func53,Try.ntmps53
  go_wp2
  go_loopw [1,5] (fun q i wr => ∃ k:Nat,k ≤ n ∧ i = .int .i64 k ∧ q = .int .i64 K ∧ Below w.heap.size w wr) (fun _ i _ => n - (intOf i).toNat)
  case atStart => exact ⟨0,Nat.zero_le _,rfl,rfl,Below.refl _ _⟩
  case round =>
    obtain ⟨k,hk,rfl,rfl,hb⟩:=hrel
    by_cases hlt:k < n
    · obtain ⟨b,off,rfl,hel⟩:=hc (by omega)
      have c0:wr.cell? ⟨b,off + k,none⟩ = some (.slice none 0 0):=by
        have:=hel k hlt;rw [hb.cell (block_lt_of_cell this)];exact this
      clear hc hel
      go_wp2_with fail
      refine (heldTicketS_nil K _).mono ?_;rintro e w2 ⟨rfl,hb2⟩
      have R':Below w.heap.size w w2:=by rw [hb2];exact hb
      clear hb2;go_wp2
      go_roundw
      case rel => exact ⟨k + 1,by omega,by go_num,rfl,R'⟩
      case measure => simp [intOf];omega
    · obtain rfl:k = n:=by omega
      go_wp2;go_ret;exact ⟨rfl,hb⟩
set_option maxHeartbeats 4000000 in
theorem eqDesk_nils {v v':Value} {n:Nat} {x:Int} {w:World} (r1:NilRow w v n) (r2:NilRow w v' n):Calls Try.prog 30 #[.agg #[v,.slice none 0 0,.slice none 0 0,.int .i64 0,.int .i64 x],.agg #[v',.slice none 0 0,.slice none 0 0,.int .i64 0,.int .i64 x]] w fun e w' => e = .returned (.bool true) ∧ Below w.heap.size w w':=by
  have T0:=two_newb w #[v,.slice none 0 0,.slice none 0 0,.int .i64 0,.int .i64 x] #[v',.slice none 0 0,.slice none 0 0,.int .i64 0,.int .i64 x] 34 34;have R1:=r1.below T0.bel;have R2:=r2.below T0.bel;obtain ⟨hn,ao,cap,rfl,-⟩:=r1;obtain ⟨-,ao',cap',rfl,-⟩:=r2;have C1:=eqTicketSS_nils R1 R2
  go_enter Try.func30,Try.ntmps30
  go_wp2_with fail
  refine C1.mono ?_;rintro e w1 ⟨rfl,b1⟩;have T1:=T0.call b1;clear T0 b1 C1 R1 R2;have x1_0:w1.cell? ⟨w.heap.size,0,none⟩ = some (.slice ao n cap):=T1.b1.cell 0;have x1_1:w1.cell? ⟨w.heap.size,1,none⟩ = some (.slice none 0 0):=T1.b1.cell 1;have x1_2:w1.cell? ⟨w.heap.size,2,none⟩ = some (.slice none 0 0):=T1.b1.cell 2;have x1_3:w1.cell? ⟨w.heap.size,3,none⟩ = some (.int .i64 0):=T1.b1.cell 3;have x1_4:w1.cell? ⟨w.heap.size,4,none⟩ = some (.int .i64 x):=T1.b1.cell 4;have y1_0:w1.cell? ⟨w.heap.size + 1,0,none⟩ = some (.slice ao' n cap'):=T1.b2.cell 0;have y1_1:w1.cell? ⟨w.heap.size + 1,1,none⟩ = some (.slice none 0 0):=T1.b2.cell 1;have y1_2:w1.cell? ⟨w.heap.size + 1,2,none⟩ = some (.slice none 0 0):=T1.b2.cell 2;have y1_3:w1.cell? ⟨w.heap.size + 1,3,none⟩ = some (.int .i64 0):=T1.b2.cell 3;have y1_4:w1.cell? ⟨w.heap.size + 1,4,none⟩ = some (.int .i64 x):=T1.b2.cell 4;have HB:Hid (Below w.heap.size w w1):=T1.bel;clear T1
  go_wp2_with (first | (go_at_call 42;refine (eqTicketS_nil _).mono ?_;rintro ee w2 ⟨rfl,hw2⟩;obtain rfl:=hw2.symm) | (go_at_call 43;refine (eqAnswerS_nil _).mono ?_;rintro ee w2 ⟨rfl,hw2⟩;obtain rfl:=hw2.symm))
  go_ret;exact ⟨rfl,HB.out⟩
set_option maxHeartbeats 4000000 in
theorem markDesk_nils {v:Value} {n:Nat} {x:Int} {w:World} (r:NilRow w v n) {K:Int} (hK:¬ K < 0):Calls Try.prog 32 #[.agg #[v,.slice none 0 0,.slice none 0 0,.int .i64 0,.int .i64 x],.int .i64 K] w fun e w' => e = .returned (.int .i64 K) ∧ Below w.heap.size w w':=by
  have T0:=one_new w #[v,.slice none 0 0,.slice none 0 0,.int .i64 0,.int .i64 x] 34;have C1:=markTicketSS_nils (r.below T0.bel) hK;obtain ⟨hn,ao,cap,rfl,-⟩:=r
  go_enter Try.func32,Try.ntmps32
  go_wp2_with fail
  refine C1.mono ?_;rintro e w1 ⟨rfl,b1⟩;have T1:=T0.call b1;clear T0 b1 C1;have x1_0:w1.cell? ⟨w.heap.size,0,none⟩ = some (.slice ao n cap):=T1.b1.cell 0;have x1_1:w1.cell? ⟨w.heap.size,1,none⟩ = some (.slice none 0 0):=T1.b1.cell 1;have x1_2:w1.cell? ⟨w.heap.size,2,none⟩ = some (.slice none 0 0):=T1.b1.cell 2;have x1_3:w1.cell? ⟨w.heap.size,3,none⟩ = some (.int .i64 0):=T1.b1.cell 3;have x1_4:w1.cell? ⟨w.heap.size,4,none⟩ = some (.int .i64 x):=T1.b1.cell 4;have HB:Hid (Below w.heap.size w w1):=T1.bel;clear T1
  go_wp2_with (first | (go_at_call 48;refine (markTicketS_nil K _).mono ?_;rintro ee w2 ⟨rfl,hw2⟩;obtain rfl:=hw2.symm) | (go_at_call 49;refine (markAnswerS_nil K _).mono ?_;rintro ee w2 ⟨rfl,hw2⟩;obtain rfl:=hw2.symm))
  go_ret;exact ⟨rfl,HB.out⟩
set_option maxHeartbeats 4000000 in
theorem heldDesk_nils {v:Value} {n:Nat} {x:Int} {w:World} (r:NilRow w v n) {K:Int} (hK:¬ K < 0):Calls Try.prog 34 #[.agg #[v,.slice none 0 0,.slice none 0 0,.int .i64 0,.int .i64 x],.int .i64 K] w fun e w' => e = .returned (.int .i64 K) ∧ Below w.heap.size w w':=by
  have T0:=one_new w #[v,.slice none 0 0,.slice none 0 0,.int .i64 0,.int .i64 x] 34;have C1:=heldTicketSS_nils (r.below T0.bel) hK;obtain ⟨hn,ao,cap,rfl,-⟩:=r
  go_enter Try.func34,Try.ntmps34
  go_wp2_with fail
  refine C1.mono ?_;rintro e w1 ⟨rfl,b1⟩;have T1:=T0.call b1;clear T0 b1 C1;have x1_0:w1.cell? ⟨w.heap.size,0,none⟩ = some (.slice ao n cap):=T1.b1.cell 0;have x1_1:w1.cell? ⟨w.heap.size,1,none⟩ = some (.slice none 0 0):=T1.b1.cell 1;have x1_2:w1.cell? ⟨w.heap.size,2,none⟩ = some (.slice none 0 0):=T1.b1.cell 2;have x1_3:w1.cell? ⟨w.heap.size,3,none⟩ = some (.int .i64 0):=T1.b1.cell 3;have x1_4:w1.cell? ⟨w.heap.size,4,none⟩ = some (.int .i64 x):=T1.b1.cell 4;have HB:Hid (Below w.heap.size w w1):=T1.bel;clear T1
  go_wp2_with (first | (go_at_call 54;refine (heldTicketS_nil K _).mono ?_;rintro ee w2 ⟨rfl,hw2⟩;obtain rfl:=hw2.symm) | (go_at_call 55;refine (heldAnswerS_nil K _).mono ?_;rintro ee w2 ⟨rfl,hw2⟩;obtain rfl:=hw2.symm))
  go_ret;exact ⟨rfl,HB.out⟩
end Go.Proofs.Ytcepcjkfdonclaa
namespace Go.Proofs.Ytcepcjkfdonclaa
open Go.RowKit F256
def blankB:BlockD:=⟨0,(4,fun _ => 0)⟩
def freshD (rows:Nat):DriveD:=⟨false,(rows,fun _ => blankB)⟩
theorem ownB_T {w:World} {lo hi n:Nat} {v:Value} {f:Nat → Nat} (h:Own w lo hi v n f) (hh:hi ≤ w.heap.size) (kf:∀ i,f i < 256):OwnT layBytes w lo hi (n,f) [v]:=by
  refine ⟨v.ownBlock.toList,⟨v,rfl,rfl,h.weaken (Nat.zero_le _) hh,kf⟩,?_,fun b hb => ?_⟩
  · cases v.ownBlock <;> simp
  · have hb':v.ownBlock = some b:=by simpa using hb
    exact ⟨(h.1.lt b hb').1,h.2 b hb'⟩
theorem OwnT.fin1 {α:Type} {A:Lay α} {w:World} {s:Nat} {a:α} {cs:List Value} (h:OwnT A w (s + 1) w.heap.size a cs) (o:Nat) (l:List Value) (w':World) (e:w' = Go.Proofs.Ytcepcjkfdonclaa.stN w s o l):OwnT A w' s w'.heap.size a cs:=by
  subst e;exact (h.stN s o l (by omega)).weaken (by omega) (by rw [stN_size];exact Nat.le_refl _)
theorem el_Block:ElInfo layBlock 56 68 32 [.int .i64 0,.slice none 0 0]:=⟨by decide,rfl,Try.underlying56,by kernel_rfl,by decide⟩
theorem el_Drive:ElInfo layDrive 55 58 32 [.bool false,.slice none 0 0]:=⟨by decide,rfl,Try.underlying55,by kernel_rfl,by decide⟩
theorem el_DriveS:ElInfo (layDrive.slice 58) 25 55 24 [.slice none 0 0]:=⟨by decide,rfl,Try.underlying25,by kernel_rfl,by decide⟩
set_option maxHeartbeats 4000000 in
theorem l5Blank_any (w:World):Calls Try.prog 35 #[] w fun e w' => ∃ cs,e = .returned (.agg cs.toArray) ∧ OwnT layBlock w' w.heap.size w'.heap.size blankB cs ∧ Below w.heap.size w w':=by
  have T0:=one_new w #[.int .i64 0,.slice none 0 0] 68
  go_enter Try.func35,Try.ntmps35
  go_wp2_with (at_make;refine wp_makeB _ rfl _ _ rfl _ _ 4 rfl rfl rfl rfl (by omega) ?_;intro w1 o1 b1 l1;have T1:=T0.call b1;have z0:w1.cell? ⟨w.heap.size,0,none⟩ = some (.int .i64 0):=T1.b1.cell 0;have z1:w1.cell? ⟨w.heap.size,1,none⟩ = some (.slice none 0 0):=T1.b1.cell 1;have zf0:w1.frozen? ⟨w.heap.size,0,none⟩ = false:=T1.b1.frozen 0;have zf1:w1.frozen? ⟨w.heap.size,1,none⟩ = false:=T1.b1.frozen 1)
  have O1:OwnT layBytes w1 (w.heap.size + 1) w1.heap.size (4,fun _ => 0) [.slice (some ⟨w.heap.size + 1,0,none⟩) 4 4]:=by
    have:=ownB_T o1 (Nat.le_refl _) (fun _ => by decide)
    simpa using this
  have F:OwnT layBlock w1 (w.heap.size + 1) w1.heap.size blankB ([.int .i64 0] ++ [.slice (some ⟨w.heap.size + 1,0,none⟩) 4 4]):=OwnT.conv (OwnT.pre (A:=layI) (a:=0) (c:=[.int .i64 0]) ⟨rfl,by omega,rfl⟩ O1);refine bodyPost_ret (v:=.agg #[.int .i64 0,.slice (some ⟨w.heap.size + 1,0,none⟩) 4 4]) (by simp [results,Try.results35,go_sem,z0,z1]) rfl ?_;refine ⟨[.int .i64 0,.slice (some ⟨w.heap.size + 1,0,none⟩) 4 4],rfl,?_,?_⟩
  · exact OwnT.fin1 F 0 [.int .i64 0,.slice (some ⟨w.heap.size + 1,0,none⟩) 4 4] _ rfl
  · exact T1.bel.trans (stN_below (Nat.le_refl _) [.int .i64 0,.slice (some ⟨w.heap.size + 1,0,none⟩) 4 4] 0)
theorem Three.low {w wc w':World} {c1 c2 c3:Array Value} {t1 t2 t3:TypeId} (h:Three w wc c1 c2 c3 t1 t2 t3) (hb:Below (w.heap.size + 1 + 1 + 1) wc w'):Three w w' c1 c2 c3 t1 t2 t3 :=
  ⟨h.b1.below hb (by omega),h.b2.below hb (by omega),h.b3.below hb (by omega),h.bel.trans (hb.mono (by omega))⟩
set_option maxHeartbeats 8000000 in
set_option maxRecDepth 20000 in
theorem l5Fresh_any (s:Nat → Int) (hok:OkShape s) (w:World):Calls Try.prog 24 #[shapeV s] w fun e w' => ∃ cs,e = .returned (.agg cs.toArray) ∧ OwnT layDrive w' w.heap.size w'.heap.size (freshD (s 4).toNat) cs ∧ Below w.heap.size w w':=by
  obtain ⟨R,hR,hR1⟩:∃ R:Nat,s 4 = (R:Int) ∧ R ≤ 6:=by
    obtain ⟨_,_,⟨h1,h2⟩,_⟩:=hok;exact ⟨(s 4).toNat,by omega,by omega⟩
  clear hok;have HR:Hid (s 4 = (R:Int)):=hR
  have hRa:s 4 ≤ (R:Int):=by omega
  have hRb:(R:Int) ≤ s 4:=by omega
  clear hR;unfold shapeV;have T0:=three_newb w #[.int .i64 (s 0),.int .i64 (s 1),.int .i64 (s 2),.int .i64 (s 3),.int .i64 (s 4),.int .i64 (s 5),.int .i64 (s 6),.int .i64 (s 7),.int .i64 (s 8)] #[.bool false,.slice none 0 0] #[.bool false,.slice none 0 0] 24 58 58
  go_enter Try.func24,Try.ntmps24
  go_wp2
  go_loopw [4] (fun i wr => ∃ (k:Nat) (ao:Option Addr) (cap:Nat),k ≤ R ∧ i = .int .i64 k ∧ Three w wr #[.int .i64 (s 0),.int .i64 (s 1),.int .i64 (s 2),.int .i64 (s 3),.int .i64 (s 4),.int .i64 (s 5),.int .i64 (s 6),.int .i64 (s 7),.int .i64 (s 8)] #[.bool false,.slice none 0 0] #[.bool false,.slice ao k cap] 24 58 58 ∧ Gat layBlock 68 wr (w.heap.size + 1 + 1 + 1) (.slice ao k cap) k (fun _ => blankB)) (fun i _ => R - (intOf i).toNat)
  case atStart => exact ⟨0,none,0,Nat.zero_le _,rfl,T0,Gat.nil _ _ _⟩
  case round =>
    clear T0;obtain ⟨k,ao,cap,hk,rfl,T1,G1⟩:=hrel;obtain ⟨wo,rfl⟩:∃ x,x = wr:=⟨_,rfl⟩;have HT1:Hid (Three w wo #[.int .i64 (s 0),.int .i64 (s 1),.int .i64 (s 2),.int .i64 (s 3),.int .i64 (s 4),.int .i64 (s 5),.int .i64 (s 6),.int .i64 (s 7),.int .i64 (s 8)] #[.bool false,.slice none 0 0] #[.bool false,.slice ao k cap] 24 58 58):=T1;have HG1:Hid (Gat layBlock 68 wo (w.heap.size + 1 + 1 + 1) (.slice ao k cap) k (fun _ => blankB)):=G1;have z1:w.heap.size + 1 + 1 + 1 ≤ wo.heap.size:=T1.lt;have x4:wo.cell? ⟨w.heap.size,4,none⟩ = some (.int .i64 (s 4)):=T1.b1.cell 4;have y0:wo.cell? ⟨w.heap.size + 1 + 1,0,none⟩ = some (.bool false):=T1.b3.cell 0;have y1:wo.cell? ⟨w.heap.size + 1 + 1,1,none⟩ = some (.slice ao k cap):=T1.b3.cell 1
    by_cases hlt:k < R
    · have hd:decide ((k:Int) < s 4) = true:=decide_eq_true (by omega)
      clear T1 G1
      go_upto_region 5 with fail
      go_region_law (first | (refine step_call rfl 35 _ _ rfl #[] ?_ Try.func35 (by kernel_rfl) (by kernel_rfl) (l5Blank_any _) ?_;(simp [Act.eval,Act.put]);rintro ee w5 ⟨c5,rfl,o5,b5⟩;obtain ⟨bo,bc,rfl⟩:=Block_cells o5;replace b5:Below wo.heap.size wo w5:=⟨b5.os,b5.tape,b5.output,b5.size,b5.block⟩;have q1:w5.cell? ⟨w.heap.size + 1 + 1,1,none⟩ = some (.slice ao k cap):=(HT1.out.call b5).b3.cell 1;have q3:=(cell_alloc_old w5 (.cells #[.int .i64 blankB.stamp,.slice bo blankB.bytes.1 bc] 68) (w.heap.size + 1 + 1) 1 (by have:=b5.size;omega)).trans q1;refine ⟨_,rfl,?_⟩) | (refine step_appendN el_Block rfl (.tmp 13) (.tmp 15) rfl (lo:=w.heap.size + 1 + 1 + 1) (n:=k) (v:=.slice ao k cap) (x:=fun _ => blankB) ?_ HG1.out b5 o5 ?_ w5.heap.size 1 ?_ (fun j _ => cells_new w5 _ _ j) (by omega) (by omega) ?_;(simp [Act.eval,Act.put]);(exact (Below.refl _ _).alloc (Nat.le_refl _) _);(simp [Act.eval,Act.put]);intro v4 w4 g4 b4;obtain ⟨ao4,cap4,rfl⟩:=g4.form;have T4:=HT1.out.low b4;have p1:w4.cell? ⟨w.heap.size + 1 + 1,1,none⟩ = some (.slice ao k cap):=T4.b3.cell 1;have p2:w4.frozen? ⟨w.heap.size + 1 + 1,1,none⟩ = false:=T4.b3.frozen 1))
      all_goals
        go_wp2
        go_roundw
        case rel => exact ⟨k + 1,ao4,cap4,by omega,by go_num,T4.st3 1 [.slice ao4 (k + 1) cap4] rfl,(g4.set _ _ _ (by omega)).congr (fun i _ => by rw [show upd (fun _ => blankB) k blankB = fun _ => blankB from upd_self (fun _ => blankB) k])⟩
        case measure => simp [intOf];omega
    · obtain rfl:k = R:=by omega
      have hd:decide ((k:Int) < s 4) = false:=decide_eq_false (by omega);have r0:wo.cell? ⟨w.heap.size + 1,0,none⟩ = some (.bool false):=T1.b2.cell 0;have r1:wo.cell? ⟨w.heap.size + 1,1,none⟩ = some (.slice none 0 0):=T1.b2.cell 1;have rf0:wo.frozen? ⟨w.heap.size + 1,0,none⟩ = false:=T1.b2.frozen 0;have rf1:wo.frozen? ⟨w.heap.size + 1,1,none⟩ = false:=T1.b2.frozen 1;clear T1 G1;go_wp2;refine bodyPost_ret (v:=.agg #[.bool false,.slice ao k cap]) (by simp [results,Try.results24,go_sem,r0,r1]) rfl ?_
      have F:OwnT layDrive wo (w.heap.size + 1 + 1 + 1) wo.heap.size (freshD (s 4).toNat) ([.bool false] ++ [.slice ao k cap]):=by
        have e:(s 4).toNat = k:=by have:=HR.out;omega
        rw [e];exact OwnT.conv (OwnT.pre (A:=layB) (a:=false) (c:=[.bool false]) ⟨rfl,trivial,rfl⟩ HG1.out.own)
      refine ⟨[.bool false,.slice ao k cap],rfl,?_,?_⟩
      · exact OwnT.fin1 (F.weaken (by omega) (Nat.le_refl _)) 0 [.bool false,.slice ao k cap] _ rfl |>.weaken (by omega) (Nat.le_refl _)
      · exact HT1.out.bel.trans (stN_below (by omega) [.bool false,.slice ao k cap] 0)
end Go.Proofs.Ytcepcjkfdonclaa
namespace Go.Proofs.Ytcepcjkfdonclaa
open Go.RowKit F256
def noRec:RecD:=⟨0,0,ByteArray.empty,0,0,0,(0,fun _ => 0),(0,fun _ => 0),(0,fun _ => 0)⟩
def zeroT:TapeD:=⟨false,(0,fun _ => noRec)⟩
def zeroW:WorldD:=⟨fun _ => 0,(0,fun _ => (0,fun _ => freshD 0)),(0,fun _ => 0),(0,fun _ => zeroT),0,0,false⟩
def newW (s:Nat → Int):WorldD:=⟨s,((s 0 + s 1).toNat,fun _ => ((s 2 + s 3).toNat,fun _ => freshD (s 4).toNat)),(0,fun _ => 0),(2,fun _ => zeroT),0,-1,false⟩
def NewAns (s:Nat → Int) (d:WorldResultD):Prop:=(¬ OkShape s ∧ d = ⟨3,zeroW⟩) ∨ (OkShape s ∧ d = ⟨0,newW s⟩)
def ResPost (P:WorldResultD → Prop) (w:World) (e:Ending) (w':World):Prop:=∃ d cs,e = .returned (.agg cs.toArray) ∧ P d ∧ OwnT layWorldResult w' w.heap.size w'.heap.size d cs ∧ Below w.heap.size w w'
theorem el_Tape:ElInfo layTape 27 88 32 [.bool false,.slice none 0 0]:=⟨by decide,rfl,Try.underlying27,by kernel_rfl,by decide⟩
theorem own_noInts (w:World) (f:Nat → Int) (h:∀ i,-9223372036854775808 ≤ f i ∧ f i ≤ 9223372036854775807):layInts.own w (0,f) [.slice none 0 0] []:=⟨_,rfl,rfl,⟨⟨rfl,.inl ⟨rfl,rfl⟩⟩,fun k hk => by cases hk⟩,h⟩
theorem own_noSl {α:Type} {E:Lay α} {t:TypeId} (w:World) (x:Nat → α):(E.slice t).own w (0,x) [.slice none 0 0] []:=⟨_,fun _ => [],fun _ => [],rfl,rfl,World.ownsRow_nil w 0 t E.sz,fun i hi => by omega⟩
theorem own_zeroT (w:World):layTape.own w zeroT [.bool false,.slice none 0 0] []:=⟨_,_,[],[],rfl,rfl,⟨rfl,trivial,rfl⟩,own_noSl w _⟩
theorem own_zeroW (w:World):layWorld.own w zeroW [.int .i64 0,.int .i64 0,.int .i64 0,.int .i64 0,.int .i64 0,.int .i64 0,.int .i64 0,.int .i64 0,.int .i64 0,.slice none 0 0,.slice none 0 0,.slice none 0 0,.int .i64 0,.int .i64 0,.bool false] []:=by
  have h:=World_mk (w:=w) zeroW (ao1:=none) (ao2:=none) (ao3:=none) (cap1:=0) (cap2:=0) (cap3:=0) (own_noSl w _) (own_noInts w _ (fun _ => by decide)) (own_noSl w _) (fun i => show (-9223372036854775808:Int) ≤ 0 ∧ (0:Int) ≤ 9223372036854775807 by decide) (show (-9223372036854775808:Int) ≤ 0 ∧ (0:Int) ≤ 9223372036854775807 by decide) (show (-9223372036854775808:Int) ≤ 0 ∧ (0:Int) ≤ 9223372036854775807 by decide);exact h
theorem own_resOf {w:World} {lo hi:Nat} {d:WorldD} {cs:List Value} (c:Int) (hc:-9223372036854775808 ≤ c ∧ c ≤ 9223372036854775807) (h:OwnT layWorld w lo hi d cs):OwnT layWorldResult w lo hi ⟨c,d⟩ (.int .i64 c :: cs) :=
  OwnT.conv (OwnT.pre (A:=layI) (a:=c) (c:=[.int .i64 c]) ⟨rfl,hc,rfl⟩ h)
theorem own_resCode (w:World) (c:Int) (hc:-9223372036854775808 ≤ c ∧ c ≤ 9223372036854775807) (lo hi:Nat):OwnT layWorldResult w lo hi ⟨c,zeroW⟩ (.int .i64 c :: [.int .i64 0,.int .i64 0,.int .i64 0,.int .i64 0,.int .i64 0,.int .i64 0,.int .i64 0,.int .i64 0,.int .i64 0,.slice none 0 0,.slice none 0 0,.slice none 0 0,.int .i64 0,.int .i64 0,.bool false]):=own_resOf c hc (OwnT.nil (own_zeroW w) lo hi)
theorem Box.chgl {w w':World} {b:Nat} {cs:Array Value} {t:TypeId} {K:List Nat} (h:Box w b cs t) (hc:ChgL K w w') (hb:b ∉ K):Box w' b cs t:=(hc.block b h.lt hb).trans h
theorem ChgL.bel {K:List Nat} {w w':World} {B:Nat} (hc:ChgL K w w') (hK:∀ b,b ∈ K → B ≤ b) (hB:B ≤ w.heap.size):Below B w w':=⟨hc.os,hc.tape,hc.output,hc.size,fun k hk => hc.block k (by omega) (fun h => by have:=hK k h;omega)⟩
theorem ChgL.after {K:List Nat} {a b c:World} (h:ChgL K a b) (k:Below a.heap.size b c):ChgL K a c:=⟨k.os.trans h.os,k.tape.trans h.tape,k.output.trans h.output,Nat.le_trans h.size k.size,fun i hi hn => (k.block i hi).trans (h.block i hi hn)⟩
theorem Two.chgl {w wc w':World} {c1 c2:Array Value} {t1 t2:TypeId} {P:Nat} (h:Two w wc c1 c2 t1 t2) (hc:ChgL [P] wc w') (hP:w.heap.size + 1 < P):Two w w' c1 c2 t1 t2 :=
  ⟨h.b1.chgl hc (by simp;omega),h.b2.chgl hc (by simp;omega),h.bel.trans (hc.bel (fun b hb => by simp at hb;omega) h.bel.size)⟩
theorem own_st {α:Type} {A:Lay α} {w:World} {a:α} {cs:List Value} {K:List Nat} {g off:Nat} {l:List Value} (h:A.own w a cs K) (hg:g ∉ K):A.own (Go.Proofs.Ytcepcjkfdonclaa.stN w g off l) a cs K:=A.own_kept h (fun b hb => stN_heap g b (fun hh => hg (by rw [← hh];exact hb)) l w off)
theorem OwnT.finb {α:Type} {A:Lay α} {w:World} {lo b:Nat} {a:α} {cs:List Value} (h:OwnT A w lo w.heap.size a cs) (hb:b < lo) {lo':Nat} (hl:lo' ≤ lo) (o:Nat) (l:List Value) (w':World) (e:w' = Go.Proofs.Ytcepcjkfdonclaa.stN w b o l):OwnT A w' lo' w'.heap.size a cs:=by
  subst e;exact (h.stN b o l hb).weaken hl (by rw [stN_size];exact Nat.le_refl _)
structure NewBx (cs:Array Value) (w1 wx:World) (P t:Nat):Prop where
  box:Box wx P cs 29
  tp:(layTape.slice 88).own wx (2,fun _ => zeroT) [.slice (some ⟨t,0,none⟩) 2 2] [t]
  p1:w1.heap.size ≤ P
  t1:w1.heap.size ≤ t
  ne:t ≠ P
  bel:Below w1.heap.size w1 wx
theorem SlP.two {w:World} {lo t cap:Nat} {x:Nat → TapeD} {Ls:Nat → List Nat} (h:SlP layTape 88 w lo t cap 2 0 x (fun _ => [.bool false,.slice none 0 0]) Ls):(layTape.slice 88).own w (2,fun _ => zeroT) [.slice (Option.some ⟨t,0,none⟩) 2 cap] [t]:=by
  refine ⟨_,fun _ => [.bool false,.slice none 0 0],fun _ => [],rfl,rfl,⟨h.row.1,?_⟩,fun i _ => own_zeroT w⟩
  rcases h.row.2 with ⟨hn,_⟩ | ⟨g',cap',cur,he,hbg,rest⟩
  · cases hn
  · exact .inr ⟨g',cap',cur,he,Nat.zero_le _,rest⟩
end Go.Proofs.Ytcepcjkfdonclaa
namespace Go.Proofs.Ytcepcjkfdonclaa
open Go.RowKit F256
theorem mark_T {α:Type} {A:Lay α} {c:α → Nat} {mk:Nat → α → α} {fn:Nat} (hm:MkV A c mk fn) {w:World} {lo hi:Nat} {d:α} {cs:List Value} (h:OwnT A w lo hi d cs) (j:Nat) (hj:j + c d ≤ 100000000) :
    Calls Try.prog fn #[.agg cs.toArray,.int .i64 j] w fun e w' => e = .returned (.int .i64 ((j + c d:Nat):Int)) ∧ OwnT A w' lo hi (mk j d) cs ∧ Chg lo hi w w':=by
  obtain ⟨L,h1,h2,h3⟩:=h;exact (hm cs d L j w h1 h2 hj).mono fun e w' ⟨he,ho,hc⟩ => ⟨he,⟨L,ho,h2,h3⟩,hc.chg h3⟩
theorem Chg.bel {lo hi B:Nat} {w w':World} (h:Chg lo hi w w') (hl:B ≤ lo) (hB:B ≤ w.heap.size):Below B w w':=⟨h.os,h.tape,h.output,h.size,fun k hk => h.block k (by omega) (.inl (by omega))⟩
theorem sumN_mono2 {f g:Nat → Nat}:∀ {n:Nat},(∀ i,i < n → f i ≤ g i) → sumN f n ≤ sumN g n
  | 0,_ => Nat.le_refl _
  | n + 1,h => by
    rw [sumN_succ,sumN_succ];exact Nat.add_le_add (sumN_mono2 (fun i hi => h i (by omega))) (h n (by omega))
theorem sumN_const (c:Nat):∀ n:Nat,sumN (fun _ => c) n = n * c
  | 0 => by simp [sumN]
  | n + 1 => by rw [sumN_succ,sumN_const c n,Nat.succ_mul]
theorem sumN_plus (f:Nat → Nat) (c k:Nat):∀ n:Nat,sumN (fun i => c + k * f i) n = n * c + k * sumN f n
  | 0 => by simp [sumN]
  | n + 1 => by rw [sumN_succ,sumN_plus f c k n,sumN_succ,Nat.succ_mul,Nat.mul_add];omega
theorem cSl_le {α:Type} {c s:α → Nat} {k:Nat} (h:∀ a,c a ≤ k + k * s a) (p:Nat × (Nat → α)):cSl c p ≤ k * szSl s p:=by
  unfold cSl szSl;have h1:sumN (fun i => c (p.2 i)) p.1 ≤ sumN (fun i => k + k * s (p.2 i)) p.1:=sumN_mono2 (fun i _ => h (p.2 i));rw [sumN_plus (fun i => s (p.2 i)) k k p.1] at h1;rw [Nat.mul_add];have:p.1 * k = k * p.1:=Nat.mul_comm _ _;omega
theorem cBlock_le (d:BlockD):cBlockD d ≤ 6 + 6 * szBlockD d:=by unfold cBlockD szBlockD;omega
theorem cDrive_le (d:DriveD):cDriveD d ≤ 6 + 6 * szDriveD d:=by
  have:=cSl_le (k:=6) cBlock_le d.blocks;unfold cDriveD szDriveD;omega
theorem cRec_le (d:RecD):cRecD d ≤ 6 + 6 * szRecD d:=by unfold cRecD szRecD;omega
theorem cTape_le (d:TapeD):cTapeD d ≤ 6 + 6 * szTapeD d:=by
  have:=cSl_le (k:=6) cRec_le d.recs;unfold cTapeD szTapeD;omega
theorem cvWorld_le (d:WorldD):cvWorldD d ≤ 6 * szWorldD d:=by
  have h1:=cSl_le (c:=cSl cDriveD) (s:=szSl szDriveD) (k:=6) (fun p => Nat.le_trans (cSl_le (k:=6) cDrive_le p) (by omega)) d.groups;have h3:=cSl_le (k:=6) cTape_le d.tapes;unfold cvWorldD szWorldD;omega
theorem szFresh (R:Nat):szDriveD (freshD R) = R + R * 4:=by
  show R + sumN (fun _ => 4) R = _
  rw [sumN_const]
theorem szNew (s:Nat → Int) (h:OkShape s):szWorldD (newW s) ≤ 10000:=by
  obtain ⟨h1,h2,h3,_⟩:=h;unfold Shp3 at h1;unfold Shp at h2;obtain ⟨G,hG⟩:∃ G,(s 0 + s 1).toNat = G:=⟨_,rfl⟩;obtain ⟨D,hD⟩:∃ D,(s 2 + s 3).toNat = D:=⟨_,rfl⟩;obtain ⟨R,hR⟩:∃ R,(s 4).toNat = R:=⟨_,rfl⟩
  have e1:szSl szDriveD (D,fun _ => freshD R) = D + D * (R + R * 4):=by
    show D + sumN (fun _ => szDriveD (freshD R)) D = _
    rw [sumN_const,szFresh]
  have e2:szWorldD (newW s) = (G + G * (D + D * (R + R * 4))) + 0 + (2 + 2 * 0):=by
    unfold szWorldD newW
    simp only [hG,hD,hR]
    have a:szSl (szSl szDriveD) (G,fun _ => (D,fun _ => freshD R)) = G + G * (D + D * (R + R * 4)):=by
      show G + sumN (fun _ => szSl szDriveD (D,fun _ => freshD R)) G = _
      rw [sumN_const,e1]
    have b:szSl szTapeD (2,fun _ => zeroT) = 2 + 2 * 0:=by
      show 2 + sumN (fun _ => szTapeD zeroT) 2 = _
      rw [sumN_const];rfl
    rw [a,b];rfl
  rw [e2];have k1:D * (R + R * 4) ≤ 6 * 30:=Nat.mul_le_mul (by omega) (by omega);have k2:G * (D + D * (R + R * 4)) ≤ 6 * 186:=Nat.mul_le_mul (by omega) (by omega);omega
theorem cvNew (s:Nat → Int) {d:WorldResultD} (h:NewAns s d):cvWorldResultD d ≤ 90000:=by
  rcases h with ⟨_,rfl⟩ | ⟨h,rfl⟩
  · show cvWorldD zeroW ≤ _
    have:cvWorldD zeroW = 0:=rfl;omega
  · show cvWorldD (newW s) ≤ _
    have:=cvWorld_le (newW s);have:=szNew s h;omega
end Go.Proofs.Ytcepcjkfdonclaa