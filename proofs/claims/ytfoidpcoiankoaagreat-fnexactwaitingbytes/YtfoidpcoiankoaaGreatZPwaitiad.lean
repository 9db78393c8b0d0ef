/- slices.Sorted(maps.Keys(m)) by the contracts of the library. -/
import Derived.Shelf.SlIter.Nil
import Derived.Shelf.SortM.Plain
import Derived.Shelf.SortM.SortNone
import Derived.Ground.GgzProg
import Derived.Ground.SlgmProg
import Derived.Test.YtfoidpcoiankoaaGreatProg
import Derived.Test.YtfoidpcoiankoaaGreatZPwaitiac
import Derived.Maps.OwnSet
import Derived.WideKeyEntry
import Derived.DeepKeys4
import Derived.Test.YtfoidpcoiankoaaGreatZPwaitiab
import Derived.Test.YtfoidpcoiankoaaGreatZPwaitiaa
import Derived.Deep.MidRow
import Derived.Laws.CopyOwn
import Derived.Maps.AppendAt
import Derived.StillTailTactics
import Derived.Deep.DeepCutAuto
set_option linter.unusedVariables false
set_option linter.unusedSimpArgs false
namespace Go.Proofs.YtfoidpcoiankoaaGreat
open Go.RowKit Go.Maps Go.Sort Go.Shelf
def itKeys_ren:Go.Shelf.Ren:=⟨fun | 7 => 66 | 10 => 102 | n => n,fun | 23 => 98 | 26 => 9 | 3 => 118 | 28 => 113 | 0 => 0 | 27 => 112 | 33 => 155 | 4 => 4 | n => n,fun | n => n⟩
theorem itKeys:Go.Proofs.SlLaysZ.n7 Tryz.prog itKeys_ren:={
  mixed:=by kernel_rfl
  f7:=⟨Tryz.f66.name,by decide,Tryz.func66.trans (congrArg some (by kernel_rfl))⟩
  f10:=⟨Tryz.f102.name,by decide,Tryz.func102.trans (congrArg some (by kernel_rfl))⟩
  t0:=Tryz.underlying0
  a0:=Tryz.isAgg0
  z0:=Tryz.sizeOf0
  v0:=Tryz.zeroValue0
  t4:=Tryz.underlying4
  a4:=Tryz.isAgg4
  z4:=Tryz.sizeOf4
  v4:=Tryz.zeroValue4
  t23:=Tryz.underlying98
  a23:=Tryz.isAgg98
  z23:=Tryz.sizeOf98
  v23:=Tryz.zeroValue98
  t26:=Tryz.underlying9
  a26:=Tryz.isAgg9
  z26:=Tryz.sizeOf9
  v26:=Tryz.zeroValue9
  t27:=Tryz.underlying112
  a27:=Tryz.isAgg112
  z27:=Tryz.sizeOf112
  v27:=Tryz.zeroValue112
  t28:=Tryz.underlying113
  a28:=Tryz.isAgg113
  z28:=Tryz.sizeOf113
  v28:=Tryz.zeroValue113
  t33:=Tryz.underlying155
  a33:=Tryz.isAgg155
  z33:=Tryz.sizeOf155
  v33:=Tryz.zeroValue155 }
def itSorted_ren:Go.Shelf.Ren:=⟨fun | 6 => 65 | 8 => 100 | 9 => 101 | 11 => 130 | 13 => 132 | 12 => 131 | 23 => 161 | 24 => 162 | 14 => 152 | 15 => 153 | 16 => 154 | 17 => 155 | 18 => 156 | 19 => 157 | 20 => 158 | 21 => 159 | 22 => 160 | 25 => 169 | 26 => 170 | 27 => 171 | 28 => 172 | 29 => 173 | 30 => 174 | 31 => 176 | n => n,fun | 26 => 9 | 28 => 113 | 24 => 110 | 0 => 0 | 3 => 3 | 37 => 180 | 48 => 203 | 50 => 205 | 4 => 4 | 40 => 195 | 39 => 194 | 45 => 200 | 5 => 5 | 9 => 9 | 51 => 208 | 55 => 212 | 57 => 214 | 58 => 215 | 33 => 155 | n => n,fun | n => n⟩
theorem itSorted:Go.Proofs.SlLaysZ.n6 Tryz.prog itSorted_ren:={
  mixed:=by kernel_rfl
  f6:=⟨Tryz.f65.name,by decide,Tryz.func65.trans (congrArg some (by kernel_rfl))⟩
  f8:=⟨Tryz.f100.name,by decide,Tryz.func100.trans (congrArg some (by kernel_rfl))⟩
  f11:=⟨Tryz.f130.name,by decide,Tryz.func130.trans (congrArg some (by kernel_rfl))⟩
  t0:=Tryz.underlying0
  a0:=Tryz.isAgg0
  z0:=Tryz.sizeOf0
  v0:=Tryz.zeroValue0
  t24:=Tryz.underlying110
  a24:=Tryz.isAgg110
  z24:=Tryz.sizeOf110
  v24:=Tryz.zeroValue110
  t26:=Tryz.underlying9
  a26:=Tryz.isAgg9
  z26:=Tryz.sizeOf9
  v26:=Tryz.zeroValue9
  t28:=Tryz.underlying113
  a28:=Tryz.isAgg113
  z28:=Tryz.sizeOf113
  v28:=Tryz.zeroValue113
  i26:=by kernel_rfl }
def itSort_ren:Go.Shelf.Ren:=⟨fun | 6 => 101 | 8 => 132 | 9 => 131 | 19 => 161 | 20 => 162 | 21 => 152 | 22 => 153 | 23 => 154 | 24 => 155 | 25 => 156 | 26 => 157 | 27 => 158 | 28 => 159 | 29 => 160 | 36 => 169 | 31 => 170 | 32 => 171 | 37 => 172 | 38 => 173 | 39 => 174 | 41 => 176 | n => n,fun | 27 => 110 | 29 => 9 | 3 => 3 | 32 => 180 | 26 => 110 | 0 => 0 | 44 => 203 | 46 => 205 | 4 => 4 | 36 => 195 | 35 => 194 | 41 => 200 | 5 => 5 | 9 => 9 | 53 => 208 | 57 => 212 | 63 => 214 | 64 => 215 | n => n,fun | n => n⟩
theorem itSort:Go.Proofs.SlLaysM.n6 Tryz.prog itSort_ren:={
  mixed:=by kernel_rfl
  f6:=⟨Tryz.f101.name,by decide,Tryz.func101.trans (congrArg some (by kernel_rfl))⟩
  f8:=Tryz.func132.trans (congrArg some (by kernel_rfl))
  f9:=⟨Tryz.f131.name,by decide,Tryz.func131.trans (congrArg some (by kernel_rfl))⟩
  f19:=Tryz.func161.trans (congrArg some (by kernel_rfl))
  f20:=Tryz.func162.trans (congrArg some (by kernel_rfl))
  f21:=⟨Tryz.f152.name,by decide,Tryz.func152.trans (congrArg some (by kernel_rfl))⟩
  f22:=⟨Tryz.f153.name,by decide,Tryz.func153.trans (congrArg some (by kernel_rfl))⟩
  f23:=⟨Tryz.f154.name,by decide,Tryz.func154.trans (congrArg some (by kernel_rfl))⟩
  f24:=⟨Tryz.f155.name,by decide,Tryz.func155.trans (congrArg some (by kernel_rfl))⟩
  f25:=⟨Tryz.f156.name,by decide,Tryz.func156.trans (congrArg some (by kernel_rfl))⟩
  f26:=⟨Tryz.f157.name,by decide,Tryz.func157.trans (congrArg some (by kernel_rfl))⟩
  f27:=⟨Tryz.f158.name,by decide,Tryz.func158.trans (congrArg some (by kernel_rfl))⟩
  f28:=⟨Tryz.f159.name,by decide,Tryz.func159.trans (congrArg some (by kernel_rfl))⟩
  f29:=⟨Tryz.f160.name,by decide,Tryz.func160.trans (congrArg some (by kernel_rfl))⟩
  f31:=Tryz.func170.trans (congrArg some (by kernel_rfl))
  f32:=Tryz.func171.trans (congrArg some (by kernel_rfl))
  f36:=⟨Tryz.f169.name,by decide,Tryz.func169.trans (congrArg some (by kernel_rfl))⟩
  f37:=⟨Tryz.f172.name,by decide,Tryz.func172.trans (congrArg some (by kernel_rfl))⟩
  f38:=⟨Tryz.f173.name,by decide,Tryz.func173.trans (congrArg some (by kernel_rfl))⟩
  f39:=⟨Tryz.f174.name,by decide,Tryz.func174.trans (congrArg some (by kernel_rfl))⟩
  f41:=⟨Tryz.f176.name,by decide,Tryz.func176.trans (congrArg some (by kernel_rfl))⟩
  t0:=Tryz.underlying0
  a0:=Tryz.isAgg0
  z0:=Tryz.sizeOf0
  v0:=Tryz.zeroValue0
  t3:=Tryz.underlying3
  a3:=Tryz.isAgg3
  z3:=Tryz.sizeOf3
  v3:=Tryz.zeroValue3
  t4:=Tryz.underlying4
  a4:=Tryz.isAgg4
  z4:=Tryz.sizeOf4
  v4:=Tryz.zeroValue4
  t5:=Tryz.underlying5
  a5:=Tryz.isAgg5
  z5:=Tryz.sizeOf5
  v5:=Tryz.zeroValue5
  t9:=Tryz.underlying9
  a9:=Tryz.isAgg9
  z9:=Tryz.sizeOf9
  v9:=Tryz.zeroValue9
  t26:=Tryz.underlying110
  a26:=Tryz.isAgg110
  z26:=Tryz.sizeOf110
  v26:=Tryz.zeroValue110
  t27:=Tryz.underlying110
  a27:=Tryz.isAgg110
  z27:=Tryz.sizeOf110
  v27:=Tryz.zeroValue110
  t29:=Tryz.underlying9
  a29:=Tryz.isAgg9
  z29:=Tryz.sizeOf9
  v29:=Tryz.zeroValue9
  t32:=Tryz.underlying180
  a32:=Tryz.isAgg180
  z32:=Tryz.sizeOf180
  v32:=Tryz.zeroValue180
  t35:=Tryz.underlying194
  a35:=Tryz.isAgg194
  z35:=Tryz.sizeOf194
  v35:=Tryz.zeroValue194
  t36:=Tryz.underlying195
  a36:=Tryz.isAgg195
  z36:=Tryz.sizeOf195
  v36:=Tryz.zeroValue195
  t41:=Tryz.underlying200
  a41:=Tryz.isAgg200
  z41:=Tryz.sizeOf200
  v41:=Tryz.zeroValue200
  t44:=Tryz.underlying203
  a44:=Tryz.isAgg203
  z44:=Tryz.sizeOf203
  v44:=Tryz.zeroValue203
  t46:=Tryz.underlying205
  a46:=Tryz.isAgg205
  z46:=Tryz.sizeOf205
  v46:=Tryz.zeroValue205
  t53:=Tryz.underlying208
  a53:=Tryz.isAgg208
  z53:=Tryz.sizeOf208
  v53:=Tryz.zeroValue208
  t57:=Tryz.underlying212
  a57:=Tryz.isAgg212
  z57:=Tryz.sizeOf212
  v57:=Tryz.zeroValue212
  t63:=Tryz.underlying214
  a63:=Tryz.isAgg214
  z63:=Tryz.sizeOf214
  v63:=Tryz.zeroValue214
  t64:=Tryz.underlying215
  a64:=Tryz.isAgg215
  z64:=Tryz.sizeOf215
  v64:=Tryz.zeroValue215 }
theorem itSorts (m:Nat):AnyZ.SortsIn Tryz.prog itSorted_ren Fence.wide m :=
  ⟨fun blk off cap ss W hH hblk hsz => callsIn_wide.2 (AnyM.slices_Sort_string itSort blk off cap ss W hH hblk hsz),
   fun p cap W => callsIn_wide.2 (AnyM.slices_Sort_string_none itSort p cap W)⟩
theorem itMapsKeys (mb:Option Nat) (W:World):CallsIn Fence.wide 5 Tryz.prog 66 #[.map mb] W fun e w' => e = .returned (.func (.func 102) #[] #[.pointer (some ⟨W.heap.size,0,none⟩)]) ∧ w' = W.alloc (.cells #[.map mb] 98) :=
  AnyZ.keys_in itKeys Fence.wide 5 trivial rfl mb W
set_option maxHeartbeats 1000000 in
theorem itSortedKeys {H:Type} (b nn:Nat) (D0:DataW H) (R:Value → Option (DataW H × List MemPlace)) (w:World) (hown:w.ownsMap Tryz.prog 9 R b nn D0) (hmax:Maps.size D0 ≤ maxLen) (hbytes:Maps.size D0 * 16 ≤ 140737488355328) :
    CallsIn Fence.wide 5 Tryz.prog 65 #[.func (.func 102) #[] #[.pointer (some ⟨w.heap.size,0,none⟩)]] (w.alloc (.cells #[.map (some b)] 98)) fun e w' => ∃ (v:Value) (ss:List (List UInt8)),e = .returned v ∧ ss.Perm (strKeys D0) ∧
      w'.ownsRow (w.alloc (.cells #[.map (some b)] 98)).heap.size 9 1 v ss.length ((ss.mergeSort (fun x y => decide (x ≤ y))).map encStr) ∧ (v = .slice none 0 0 ↔ ss = []) ∧ Below (w.alloc (.cells #[.map (some b)] 98)).heap.size (w.alloc (.cells #[.map (some b)] 98)) w':=by
  have hbl:=hown.lt
  have hseq:SeqGives Fence.wide 2 Tryz.prog 102 #[.pointer (some ⟨w.heap.size,0,none⟩)] encStr (fun ss => ss.Perm (strKeys D0)) (Maps.size D0) (w.alloc (.cells #[.map (some b)] 98)) :=
    AnyZ.keys_gives (ρ:=itKeys_ren) { itKeys with } Fence.wide _ trivial rfl (by omega) w.heap.size b nn D0 _ (by simp) (by simp) (by
      obtain ⟨es,clock,hb,Ft,hs,hD⟩:=hown
      exact ⟨es,clock,(Below.heap_alloc _ _ b hbl).trans hb,Ft,hs,hD⟩)
  exact AnyZ.sorted_in itSorted Fence.wide 5 trivial trivial trivial trivial rfl (by omega) (itSorts _) (enters_of Tryz.func101 (by kernel_rfl) rfl) 102 #[.pointer (some ⟨w.heap.size,0,none⟩)] trivial (enters_of Tryz.func102 (by kernel_rfl) rfl) _ _ hmax hbytes _ hseq
end Go.Proofs.YtfoidpcoiankoaaGreat
namespace Go.Proofs.YtfoidpcoiankoaaGreat
open Go.RowKit F256
open Go.Maps (Keyed)
def heldR (v:Value):Option (DataW Value × List MemPlace):=some (.held v,[])
def MapV (w:World) (k:TypeId) (b n:Nat) (f:Value → Option Value):Prop :=
  ∃ D,w.ownsMap Tryz.prog k heldR b n D ∧ ∀ x l,keyOf Tryz.prog k x = some l → Maps.has D l = (f x).isSome ∧ ∀ z,D.atKey l (.held z) = .held ((f x).getD z)
open Classical in
noncomputable def putF (f:Value → Option Value) (x v:Value):Value → Option Value:=fun y => if y = x then some v else f y
theorem putF_same (f:Value → Option Value) (x v:Value):putF f x v x = some v:=by unfold putF;rw [if_pos rfl]
theorem putF_other (f:Value → Option Value) {x y:Value} (v:Value) (h:y ≠ x):putF f x v y = f y:=by unfold putF;rw [if_neg h]
section
variable {w w':World} {k t e:TypeId} {b n:Nat} {f:Value → Option Value}
theorem mapV_made (w:World) (k:TypeId):MapV (w.alloc (.map #[] 0)) k w.heap.size 0 (fun _ => none) :=
  ⟨.map [],World.ownsMap_made w Tryz.prog k heldR,fun x l hx => ⟨by simp [Maps.has],fun z => by simp [DataW.atKey]⟩⟩
theorem MapV.lt (h:MapV w k b n f):b < w.heap.size:=by
  obtain ⟨D,h1,_⟩:=h;exact h1.lt
theorem MapV.mono (h:MapV w k b n f) {m:Nat} (hm:n ≤ m):MapV w k b m f:=by
  obtain ⟨D,h1,h2⟩:=h;exact ⟨D,h1.mono hm,h2⟩
theorem MapV.block (h:MapV w k b n f) (hb:w'.heap[b]? = w.heap[b]?):MapV w' k b n f:=by
  obtain ⟨D,⟨es,clock,h1,h3⟩,h2⟩:=h;exact ⟨D,⟨es,clock,hb.trans h1,h3⟩,h2⟩
theorem MapV.look (h:MapV w k b n f) (K:Keyed Tryz.prog k) (ht:Tryz.prog.underlying t = some (.map k e)) {z:Value} (hz:(zeroValue e).run Tryz.prog w = .ok z w) {x:Value} {l:Lit} (hx:keyOf Tryz.prog k x = some l) :
    (Instr.lookup t (.map (some b)) x false).run Tryz.prog w = .ok ((f x).getD z) w:=by
  obtain ⟨D,h1,h2⟩:=h;obtain ⟨v,ps,h3,h4⟩:=h1.lookup K ht hz (zd:=.held z) (zp:=[]) rfl hx;rw [(h2 x l hx).2 z] at h4;unfold heldR at h4
  simp only [Option.some.injEq,Prod.mk.injEq,DataW.held.injEq] at h4
  rw [h3,h4.1]
theorem mapV_put {D:DataW Value} (K:Keyed Tryz.prog k) (hD:Maps.IsMap D) {x v:Value} {l:Lit} (hx:keyOf Tryz.prog k x = some l) (h2:∀ x l,keyOf Tryz.prog k x = some l → Maps.has D l = (f x).isSome ∧ ∀ z,D.atKey l (.held z) = .held ((f x).getD z)) :
    ∀ y m,keyOf Tryz.prog k y = some m → Maps.has (D.put l (.held v)) m = (putF f x v y).isSome ∧ ∀ z,(D.put l (.held v)).atKey m (.held z) = .held ((putF f x v y).getD z):=by
  intro y m hy
  by_cases c:y = x
  · subst c
    rw [hx] at hy
    cases hy
    rw [putF_same];exact ⟨Maps.has_put_same hD (K.key hx) _,fun z => Maps.atKey_put_same hD (K.key hx) _ _⟩
  · have hne:m ≠ l:=fun e => c (K.inj hy (by rw [e];exact hx))
    rw [putF_other f v c];exact ⟨(Maps.has_put_other hne _).trans (h2 y m hy).1,fun z => (Maps.atKey_put_other hne _ _).trans ((h2 y m hy).2 z)⟩
theorem MapV.put (h:MapV w k b n f) (K:Keyed Tryz.prog k) (ht:Tryz.prog.underlying t = some (.map k e)) (hn:n < maxLen) {x:Value} {l:Lit} (hx:keyOf Tryz.prog k x = some l) (v:Value) :
    ∃ w',(Instr.mapUpdate t (.map (some b)) x v).run Tryz.prog w = .ok () w' ∧ MapV w' k b (n + 1) (putF f x v) ∧ w.grownBy w' (some b) ∧ w'.heap.size = w.heap.size:=by
  obtain ⟨D,h1,h2⟩:=h;obtain ⟨w',h3,h4,h5⟩:=h1.store K ht hn hx (val:=v) (d:=.held v) (ps:=[]) rfl;refine ⟨w',h3,⟨_,h4,mapV_put K h1.isMap hx h2⟩,h5.grown,?_⟩;obtain ⟨es,clock,es',clock',_,rfl⟩:=h5
  simp [ChangeMaps.setBlock]
theorem entry_all {es:Array MapEntry} {clock:Nat} (K:WideMaps.KeyLaw Tryz.prog k) (ht:Tryz.prog.underlying t = some (.map k e)) {z:Value} (hz:∀ u:World,(zeroValue e).run Tryz.prog u = .ok z u) (hb:w.heap[b]? = some (.map es clock)) (F:WideElems.Fit Tryz.prog k heldR es clock)
    {x:Value} {l:Lit} (hx:keyOf Tryz.prog k x = some l) :
    ∃ (v0:Value) (st:Nat) (es1:Array MapEntry) (clock1:Nat),(Instr.mapEntry t (.map (some b)) x).run Tryz.prog w = .ok (.tuple #[v0,goInt st]) (ChangeMaps.setBlock w b (.map es1 clock1)) ∧
      (Instr.lookup t (.map (some b)) x false).run Tryz.prog w = .ok v0 w ∧ (Instr.mapUpdate t (.map (some b)) x v0).run Tryz.prog w = .ok () (ChangeMaps.setBlock w b (.map es1 clock1)):=by
  rcases K.find w hx es.toList F.keys with ⟨h1,h2⟩ | ⟨j,e0,h1,h2,h3⟩
  · refine ⟨z,clock,es.push ⟨x,z,clock⟩,clock + 1,?_,?_,?_⟩
    · simp [Instr.mapEntry,run_underlying ht,MapKept.run_getObj_map hb,K.check w false hx,h1,hz,MapKept.run_setObj_map _ hb,Result.andThen,ChangeMaps.setBlock]
    · simp [Instr.lookup,run_underlying ht,MapKept.run_getObj_map hb,K.check w _ hx,h1,hz,Result.andThen]
    · simp [Instr.mapUpdate,run_underlying ht,MapKept.run_getObj_map hb,K.check w false hx,h1,MapKept.run_setObj_map _ hb,Result.andThen,ChangeMaps.setBlock]
  · have hj:es[j]? = some e0:=by simpa using h2
    have hs1:es.modify j (fun e => { e with key:=x }) = es:=by
      apply Array.ext'
      rw [Array.toList_modify,ChangeMaps.modify_eq_set _ _ _ _ h2]
      have:({ e0 with key:=x }:MapEntry) = e0:=by rw [← h3]
      rw [this];exact WideElems.set_self _ _ _ h2
    have hs2:es.modify j (fun e => { e with key:=x,val:=e0.val }) = es:=by
      apply Array.ext'
      rw [Array.toList_modify,ChangeMaps.modify_eq_set _ _ _ _ h2]
      have:({ e0 with key:=x,val:=e0.val }:MapEntry) = e0:=by rw [← h3]
      rw [this];exact WideElems.set_self _ _ _ h2
    refine ⟨e0.val,e0.born,es,clock,?_,?_,?_⟩
    · simp [Instr.mapEntry,run_underlying ht,MapKept.run_getObj_map hb,K.check w false hx,h1,hj,h3,K.stays w hx,hs1,MapKept.run_setObj_map _ hb,Result.andThen,ChangeMaps.setBlock]
    · simp [Instr.lookup,run_underlying ht,MapKept.run_getObj_map hb,K.check w _ hx,h1,Result.andThen]
    · simp [Instr.mapUpdate,run_underlying ht,MapKept.run_getObj_map hb,K.check w false hx,h1,hj,h3,K.stays w hx,hs2,MapKept.run_setObj_map _ hb,Result.andThen,ChangeMaps.setBlock]
theorem MapV.entry (h:MapV w k b n f) (K:WideMaps.KeyLaw Tryz.prog k) (ht:Tryz.prog.underlying t = some (.map k e)) (hn:n < maxLen) {z:Value} (hz:∀ u:World,(zeroValue e).run Tryz.prog u = .ok z u) {x:Value} {l:Lit} (hx:keyOf Tryz.prog k x = some l) :
    ∃ st w1,(Instr.mapEntry t (.map (some b)) x).run Tryz.prog w = .ok (.tuple #[(f x).getD z,.int .i64 st]) w1 ∧ w1.heap.size = w.heap.size ∧ w.grownBy w1 (some b) ∧ (Instr.lookup t (.map (some b)) x false).run Tryz.prog w1 = .ok ((f x).getD z) w1 ∧
      ∀ v,∃ w',(Instr.entryStore t (.map (some b)) (.int .i64 st) v).run Tryz.prog w1 = .ok () w' ∧ MapV w' k b (n + 1) (putF f x v) ∧ w.grownBy w' (some b) ∧ w'.heap.size = w.heap.size:=by
  have KK:=Keyed.of_law K;have hM:=h;obtain ⟨D,h1,h2⟩:=h;have h1':=h1;obtain ⟨es,clock,hb,F,hs,hD⟩:=h1';obtain ⟨v0,st,es1,clock1,r1,r2,r3⟩:=WideElems.entry_then_store K ht hz hb F hx;obtain ⟨v0',st',es1',clock1',a1,a2,a3⟩:=entry_all K ht hz hb F hx
  have ea:v0' = v0 ∧ ChangeMaps.setBlock w b (.map es1' clock1') = ChangeMaps.setBlock w b (.map es1 clock1):=by
    rw [r1] at a1
    simp only [Result.ok.injEq,Value.tuple.injEq,Array.mk.injEq,List.cons.injEq] at a1
    exact ⟨a1.1.1.symm,a1.2.symm⟩
  have ev:v0 = (f x).getD z:=by
    have:=hM.look KK ht (hz w) hx;rw [a2,ea.1] at this
    simpa using this
  obtain ⟨w2,q1,q2,q3,q4⟩:=hM.put KK ht hn hx v0
  have ew:w2 = ChangeMaps.setBlock w b (.map es1 clock1):=by
    rw [ea.1,ea.2] at a3;rw [a3] at q1
    simpa using q1.symm
  have hl:(Instr.lookup t (.map (some b)) x false).run Tryz.prog (ChangeMaps.setBlock w b (.map es1 clock1)) = .ok ((f x).getD z) (ChangeMaps.setBlock w b (.map es1 clock1)):=by
    rw [← ew];have:=q2.look KK ht (hz w2) hx;rw [putF_same] at this;rw [this,ev];rfl
  rw [ev] at r1;refine ⟨(st:Int),_,r1,by simp [ChangeMaps.setBlock],⟨rfl,rfl,rfl,by simp [ChangeMaps.setBlock],fun i _ hi => ChangeMaps.heap_setBlock_other hb _ (fun e => hi (by rw [e]))⟩,hl,fun v => ?_⟩;obtain ⟨es',clock',r4,r5⟩:=r3 _ v (ChangeMaps.heap_setBlock_same hb _);obtain ⟨w',h3,h4,h5⟩:=h1.store KK ht hn hx (val:=v) (d:=.held v) (ps:=[]) rfl
  have ew:w' = ChangeMaps.setBlock w b (.map es' clock'):=by
    rw [r5] at h3
    cases h3
    rfl
  have e2:ChangeMaps.setBlock (ChangeMaps.setBlock w b (.map es1 clock1)) b (.map es' clock') = ChangeMaps.setBlock w b (.map es' clock'):=by simp [ChangeMaps.setBlock]
  refine ⟨w',?_,⟨_,h4,mapV_put KK h1.isMap hx h2⟩,h5.grown,?_⟩
  · rw [ew,← e2]
    exact r4
  · rw [ew]
    simp [ChangeMaps.setBlock]
end
end Go.Proofs.YtfoidpcoiankoaaGreat
namespace Go.Proofs.YtfoidpcoiankoaaGreat
open Go.RowKit F256
open Go.Maps (Keyed)
theorem laidOutP:laidOutB Tryz.prog = true:=by kernel_rfl
theorem keyS:Keyed Tryz.prog 9:=Maps.string_keyed Tryz.underlying9
theorem keyI:Keyed Tryz.prog 2:=Maps.int_keyed Tryz.underlying2
theorem lawStep:WideMaps.KeyLaw Tryz.prog 150:=deep_law_laid laidOutP (m:=2) (by omega) (of_decide_eq_true (by kernel_rfl)) (by kernel_rfl) (by kernel_rfl)
theorem lawPlace:WideMaps.KeyLaw Tryz.prog 153:=deep_law_laid laidOutP (m:=2) (by omega) (of_decide_eq_true (by kernel_rfl)) (by kernel_rfl) (by kernel_rfl)
theorem keyStep:Keyed Tryz.prog 150:=Keyed.of_law lawStep
theorem keyPlace:Keyed Tryz.prog 153:=Keyed.of_law lawPlace
theorem wf64 {a:Int} (h:-9223372036854775808 ≤ a ∧ a ≤ 9223372036854775807):(Lit.int .i64 a).wf = true:=by
  have e1:IntKind.i64.min = -9223372036854775808:=by decide
  have e2:IntKind.i64.max = 9223372036854775807:=by decide
  simp [Lit.wf,e1,e2,h]
theorem keyOf_S {s:ByteArray} (h:s.size ≤ maxLen):∃ l,keyOf Tryz.prog 9 (.string s) = some l:=⟨_,WideMaps.keyOf_string_mk Tryz.underlying9 h⟩
theorem keyOf_I {a:Int} (h:-9223372036854775808 ≤ a ∧ a ≤ 9223372036854775807):∃ l,keyOf Tryz.prog 2 (.int .i64 a) = some l:=⟨_,Maps.keyOf_int_mk Tryz.underlying2 (wf64 h)⟩
theorem keyOf_step {a b:Int} (ha:-9223372036854775808 ≤ a ∧ a ≤ 9223372036854775807) (hb:-9223372036854775808 ≤ b ∧ b ≤ 9223372036854775807):∃ l,keyOf Tryz.prog 150 (.agg #[.int .i64 a,.int .i64 b]) = some l:=by
  have h1:Tryz.prog.keyType 150 = true:=by kernel_rfl
  have h2:Tryz.prog.cellsOf 150 = 2:=by kernel_rfl
  have h3:Tryz.prog.cellsOf 2 = 1:=by kernel_rfl
  obtain ⟨m,hm⟩:∃ m,Tryz.prog.types.size = m + 1:=⟨Tryz.prog.types.size - 1,by have:0 < Tryz.prog.types.size:=of_decide_eq_true (by kernel_rfl);omega⟩
  have k1:∀ x:Int,(-9223372036854775808 ≤ x ∧ x ≤ 9223372036854775807) → Tryz.prog.keyLits (m + 1) 2 [.int .i64 x] = some [.int .i64 x]:=fun x hx => by
    unfold Program.keyLits;rw [Tryz.underlying2]
    simp [wf64 hx]
  have k2:∃ ls,Tryz.prog.keyLits (m + 1 + 1) 150 [.int .i64 a,.int .i64 b] = some ls:=by
    unfold Program.keyLits;rw [Tryz.underlying150]
    simp [h2,h3,k1 a ha,k1 b hb]
  obtain ⟨ls,k3⟩:=k2;refine ⟨.string (keyBytes ls),?_⟩;unfold keyOf;rw [Tryz.underlying150]
  have h4:(Value.agg #[.int .i64 a,.int .i64 b]).formed Tryz.prog 150 = true:=by simp [Value.formed,Tryz.underlying150,h2]
  have h5:(Value.agg #[.int .i64 a,.int .i64 b]).cells.toList = [.int .i64 a,.int .i64 b]:=rfl
  simp only [h1,h4,h5,hm,k3,Bool.and_self,if_true,Option.map_some]
theorem keyOf_place {a b:Int} (ha:-9223372036854775808 ≤ a ∧ a ≤ 9223372036854775807) (hb:-9223372036854775808 ≤ b ∧ b ≤ 9223372036854775807):∃ l,keyOf Tryz.prog 153 (.agg #[.int .i64 a,.int .i64 b]) = some l:=by
  have h1:Tryz.prog.keyType 153 = true:=by kernel_rfl
  have h2:Tryz.prog.cellsOf 153 = 2:=by kernel_rfl
  have h3:Tryz.prog.cellsOf 2 = 1:=by kernel_rfl
  obtain ⟨m,hm⟩:∃ m,Tryz.prog.types.size = m + 1:=⟨Tryz.prog.types.size - 1,by have:0 < Tryz.prog.types.size:=of_decide_eq_true (by kernel_rfl);omega⟩
  have k1:∀ x:Int,(-9223372036854775808 ≤ x ∧ x ≤ 9223372036854775807) → Tryz.prog.keyLits (m + 1) 2 [.int .i64 x] = some [.int .i64 x]:=fun x hx => by
    unfold Program.keyLits;rw [Tryz.underlying2]
    simp [wf64 hx]
  have k2:∃ ls,Tryz.prog.keyLits (m + 1 + 1) 153 [.int .i64 a,.int .i64 b] = some ls:=by
    unfold Program.keyLits;rw [Tryz.underlying153]
    simp [h2,h3,k1 a ha,k1 b hb]
  obtain ⟨ls,k3⟩:=k2;refine ⟨.string (keyBytes ls),?_⟩;unfold keyOf;rw [Tryz.underlying153]
  have h4:(Value.agg #[.int .i64 a,.int .i64 b]).formed Tryz.prog 153 = true:=by simp [Value.formed,Tryz.underlying153,h2]
  have h5:(Value.agg #[.int .i64 a,.int .i64 b]).cells.toList = [.int .i64 a,.int .i64 b]:=rfl
  simp only [h1,h4,h5,hm,k3,Bool.and_self,if_true,Option.map_some]
end Go.Proofs.YtfoidpcoiankoaaGreat
namespace Go.Proofs.YtfoidpcoiankoaaGreat
open Go.RowKit
theorem Box.allocd {w:World} {b:Nat} {cs:Array Value} {t:TypeId} (h:Box w b cs t) (o:Obj):Box (w.alloc o) b cs t:=(Below.heap_alloc w o b h.lt).trans h
end Go.Proofs.YtfoidpcoiankoaaGreat
namespace Go.Proofs.YtfoidpcoiankoaaGreat
open Go.RowKit F256
open Go.Maps (Keyed)
def entT (k:Int):TypeId:=if k = 1 then 118 else if k = 2 then 147 else if k = 3 then 148 else 151
def entV (k:Int) (cs:List Value):Value:=.iface (entT k) (.agg cs.toArray)
open Classical in
noncomputable def cN (p:Nat → Prop) (key:Nat → Value) (y:Value):Nat → Nat
  | 0 => 0
  | k + 1 => cN p key y k + (if p k ∧ key k = y then 1 else 0)
noncomputable def cntF (p:Nat → Prop) (key:Nat → Value) (k:Nat):Value → Option Value:=fun y => if cN p key y k = 0 then none else some (.int .i64 (cN p key y k:Int))
theorem cN_le (p:Nat → Prop) (key:Nat → Value) (y:Value):∀ k,cN p key y k ≤ k
  | 0 => Nat.le_refl _
  | k + 1 => by
    have:=cN_le p key y k;unfold cN
    split <;> omega
theorem cntF_skip {p:Nat → Prop} {key:Nat → Value} {k:Nat} (h:¬ p k):cntF p key (k + 1) = cntF p key k:=by
  funext y
  have e:cN p key y (k + 1) = cN p key y k:=by
    show cN p key y k + _ = _
    rw [if_neg (fun q => h q.1)];rfl
  unfold cntF;rw [e]
theorem cntF_put {p:Nat → Prop} {key:Nat → Value} {k:Nat} (h:p k):cntF p key (k + 1) = putF (cntF p key k) (key k) (.int .i64 ((cN p key (key k) k:Int) + 1)):=by
  funext y
  by_cases c:y = key k
  · subst c
    rw [putF_same]
    have e:cN p key (key k) (k + 1) = cN p key (key k) k + 1:=by
      show cN p key (key k) k + _ = _
      rw [if_pos ⟨h,rfl⟩]
    unfold cntF;rw [e,if_neg (by omega)]
    simp
  · rw [putF_other _ _ c]
    have e:cN p key y (k + 1) = cN p key y k:=by
      show cN p key y k + _ = _
      rw [if_neg (fun q => c q.2.symm)];rfl
    unfold cntF;rw [e]
theorem cntF_get (p:Nat → Prop) (key:Nat → Value) (k:Nat) (y:Value):(cntF p key k y).getD (.int .i64 0) = .int .i64 (cN p key y k:Int):=by
  unfold cntF
  split
  · rename_i h
    rw [h];rfl
  · rfl
noncomputable def lastF (p:Nat → Prop) (key val:Nat → Value):Nat → Value → Option Value
  | 0 => fun _ => none
  | k + 1 => @ite _ (p k) (Classical.propDecidable _) (putF (lastF p key val k) (key k) (val k)) (lastF p key val k)
theorem lastF_skip {p:Nat → Prop} {key val:Nat → Value} {k:Nat} (h:¬ p k):lastF p key val (k + 1) = lastF p key val k:=if_neg h
theorem lastF_put {p:Nat → Prop} {key val:Nat → Value} {k:Nat} (h:p k):lastF p key val (k + 1) = putF (lastF p key val k) (key k) (val k):=if_pos h
section
variable (x:Nat → RecD) (ce:Nat → List Value) (k:Nat)
noncomputable def newF:Value → Option Value:=lastF (fun i => (x i).kind = 1) (fun i => .string (x i).name) (fun i => .agg (ce i).toArray) k
noncomputable def movF:Value → Option Value:=cntF (fun i => (x i).kind = 2) (fun i => .int .i64 (x i).seq) k
noncomputable def donF:Value → Option Value:=cntF (fun i => (x i).kind = 3) (fun i => .agg #[.int .i64 (x i).seq,.int .i64 (x i).group]) k
noncomputable def endF:Value → Option Value:=cntF (fun i => (x i).kind = 3) (fun i => .int .i64 (x i).seq) k
noncomputable def shaF:Value → Option Value:=lastF (fun i => (x i).kind = 4) (fun i => .agg #[.int .i64 (x i).group,.int .i64 (x i).row]) (fun i => .int .i64 (x i).seq) k
def entL:List Value:=(List.range k).map (fun i => entV (x i).kind (ce i))
end
theorem entL_succ (x:Nat → RecD) (ce:Nat → List Value) (k:Nat):entL x ce (k + 1) = entL x ce k ++ [entV (x k).kind (ce k)]:=by
  unfold entL;rw [List.range_succ,List.map_append];rfl
structure Ldg (w:World) (lo B:Nat) (s:Nat → Int) (m k:Nat) (x:Nat → RecD) (ce:Nat → List Value) (v:Value) (b1 b2 b3 b4 b5:Nat):Prop where
  box:Box w B #[.int .i64 (s 0),.int .i64 (s 1),.int .i64 (s 2),.int .i64 (s 3),.int .i64 (s 4),.int .i64 (s 5),.int .i64 (s 6),.int .i64 (s 7),.int .i64 (s 8),v,.map (some b1),.map (some b2),.map (some b3),.map (some b4),.map (some b5)] 104
  row:w.ownsRow lo 108 1 v m (entL x ce m)
  m1:MapV w 9 b1 k (newF x ce k)
  m2:MapV w 2 b2 k (movF x k)
  m3:MapV w 150 b3 k (donF x k)
  m4:MapV w 2 b4 k (endF x k)
  m5:MapV w 153 b5 k (shaF x k)
  nd:[B,b1,b2,b3,b4,b5].Nodup
  low:lo ≤ B ∧ lo ≤ b1 ∧ lo ≤ b2 ∧ lo ≤ b3 ∧ lo ≤ b4 ∧ lo ≤ b5
  apart:∀ g,v.ownBlock = some g → g ∉ [B,b1,b2,b3,b4,b5]
theorem rowE_slice {w:World} {lo:Nat} {e:TypeId} {v:Value} {n:Nat} {xs:List Value} (h:w.ownsRow lo e 1 v n xs):∃ ao cap,v = .slice ao n cap:=by
  rcases h.2 with ⟨rfl,rfl⟩ | ⟨g,cap,cur,rfl,_⟩
  · exact ⟨none,0,rfl⟩
  · exact ⟨_,_,rfl⟩
theorem grown2 {w w1 w2:World} {q:Option Nat} {b:Nat} (h1:w.grownBy w1 none) (h2:w1.grownBy w2 q) (hb:b < w.heap.size) (hq:some b ≠ q):w2.heap[b]? = w.heap[b]? :=
  (h2.block b (Nat.lt_of_lt_of_le hb h1.size) hq).trans (h1.block b hb (by simp))
section
variable {w w1 w2:World} {lo B:Nat} {s:Nat → Int} {m k:Nat} {x:Nat → RecD} {ce:Nat → List Value} {v v':Value} {b1 b2 b3 b4 b5:Nat}
theorem Ldg.grown (h:Ldg w lo B s m k x ce v b1 b2 b3 b4 b5) (h1:w.grownBy w1 none) (h2:w1.grownBy w2 v.ownBlock):Box w2 B #[.int .i64 (s 0),.int .i64 (s 1),.int .i64 (s 2),.int .i64 (s 3),.int .i64 (s 4),.int .i64 (s 5),.int .i64 (s 6),.int .i64 (s 7),.int .i64 (s 8),v,.map (some b1),.map (some b2),.map (some b3),.map (some b4),.map (some b5)] 104 :=
  (grown2 h1 h2 h.box.lt (fun e => h.apart B e.symm (by simp))).trans h.box
theorem Ldg.laid {o1 o2:Obj} (h:Ldg w lo B s k k x ce v b1 b2 b3 b4 b5) (g1:(w.alloc o1).grownBy w1 v.ownBlock) (O1:w1.ownsRow lo 108 1 v' (k + 1) (entL x ce k ++ [entV (x k).kind (ce k)])) (hloc:v'.ownBlock = v.ownBlock ∨ v'.ownBlock = some (w.alloc o1).heap.size) :
    Ldg ((w1.setCell ⟨B,9,none⟩ v').alloc o2) lo B s (k + 1) k x ce v' b1 b2 b3 b4 b5:=by
  have g0:w.grownBy (w.alloc o1) none:=World.grownBy_alloc _ _ _
  have sz:w.heap.size + 1 ≤ w1.heap.size:=by have:=g1.size;simp at this;omega
  have keep:∀ b,b ∈ [B,b1,b2,b3,b4,b5] → b < w.heap.size → w1.heap[b]? = w.heap[b]?:=fun b hb hl => grown2 g0 g1 hl (fun e => h.apart b e.symm hb)
  have ne:∀ b,b ∈ [b1,b2,b3,b4,b5] → b ≠ B:=fun b hb e => by
    have:=h.nd;rw [List.nodup_cons] at this;exact this.1 (by rw [← e];exact hb)
  have keep2:∀ b,b ∈ [b1,b2,b3,b4,b5] → b < w.heap.size → ((w1.setCell ⟨B,9,none⟩ v').alloc o2).heap[b]? = w.heap[b]?:=fun b hb hl => by
    rw [Below.heap_alloc _ _ b (by simp;omega),heap_setCell_other w1 ⟨B,9,none⟩ b v' (ne b hb)];exact keep b (List.mem_cons_of_mem _ hb) hl
  have ap:∀ g,v'.ownBlock = some g → g ∉ [B,b1,b2,b3,b4,b5]:=fun g hg => by
    rcases hloc with e | e
    · exact h.apart g (by rw [← e];exact hg)
    · rw [e] at hg
      cases hg
      have l0:=h.box.lt;have l1:=h.m1.lt;have l2:=h.m2.lt;have l3:=h.m3.lt;have l4:=h.m4.lt;have l5:=h.m5.lt
      simp
      omega
  refine ⟨?_,?_,h.m1.block (keep2 b1 (by simp) h.m1.lt),h.m2.block (keep2 b2 (by simp) h.m2.lt),h.m3.block (keep2 b3 (by simp) h.m3.lt),h.m4.block (keep2 b4 (by simp) h.m4.lt),h.m5.block (keep2 b5 (by simp) h.m5.lt),h.nd,h.low,ap⟩
  · have X1:Box w1 B #[.int .i64 (s 0),.int .i64 (s 1),.int .i64 (s 2),.int .i64 (s 3),.int .i64 (s 4),.int .i64 (s 5),.int .i64 (s 6),.int .i64 (s 7),.int .i64 (s 8),v,.map (some b1),.map (some b2),.map (some b3),.map (some b4),.map (some b5)] 104:=(keep B (by simp) h.box.lt).trans h.box
    exact (X1.setc 9 v').allocd o2
  · rw [entL_succ]
    have O2:(w1.setCell ⟨B,9,none⟩ v').ownsRow lo 108 1 v' (k + 1) (entL x ce k ++ [entV (x k).kind (ce k)]):=by
      refine ⟨O1.1,?_⟩
      rcases O1.2 with hn | ⟨g,cap,cur,rfl,q1,q2,q3⟩
      · exact .inl hn
      · exact .inr ⟨g,cap,cur,rfl,q1,(heap_setCell_other w1 ⟨B,9,none⟩ g _ (fun e => ap g rfl (by rw [show g = B from e];simp))).trans q2,q3⟩
    exact O2.alloc o2
theorem Ldg.drawn (h:Ldg w lo B s m k x ce v b1 b2 b3 b4 b5) (q:Nat):Ldg { w with drawn:=q } lo B s m k x ce v b1 b2 b3 b4 b5:=⟨h.box,h.row,h.m1,h.m2,h.m3,h.m4,h.m5,h.nd,h.low,h.apart⟩
theorem Ldg.next {T:List Nat} (h:Ldg w lo B s (k + 1) k x ce v b1 b2 b3 b4 b5) (hb:∀ b,b < w.heap.size → b ∉ T → w2.heap[b]? = w.heap[b]?) (hT:∀ b,b ∈ T → b ∈ [b1,b2,b3,b4,b5])
    (m1:MapV w2 9 b1 (k + 1) (newF x ce (k + 1))) (m2:MapV w2 2 b2 (k + 1) (movF x (k + 1))) (m3:MapV w2 150 b3 (k + 1) (donF x (k + 1))) (m4:MapV w2 2 b4 (k + 1) (endF x (k + 1))) (m5:MapV w2 153 b5 (k + 1) (shaF x (k + 1))) :
    Ldg w2 lo B s (k + 1) (k + 1) x ce v b1 b2 b3 b4 b5:=by
  have nB:B ∉ T:=fun q => by
    have:=h.nd;rw [List.nodup_cons] at this;exact this.1 (hT B q)
  refine ⟨(hb B h.box.lt nB).trans h.box,⟨h.row.1,?_⟩,m1,m2,m3,m4,m5,h.nd,h.low,h.apart⟩
  rcases h.row.2 with hn | ⟨g,cap,cur,rfl,q1,q2,q3⟩
  · exact .inl hn
  · exact .inr ⟨g,cap,cur,rfl,q1,(hb g (Array.getElem?_eq_some_iff.1 q2).1 (fun q => h.apart g rfl (List.mem_cons_of_mem _ (hT g q)))).trans q2,q3⟩
end
theorem below_grown {w w1:World} {lo B:Nat} {s:Nat → Int} {m k:Nat} {x:Nat → RecD} {ce:Nat → List Value} {v:Value} {b1 b2 b3 b4 b5:Nat} {o1:Obj} (h:Ldg w lo B s m k x ce v b1 b2 b3 b4 b5) (g1:(w.alloc o1).grownBy w1 v.ownBlock) (hlo:lo ≤ w.heap.size):Below lo w w1:=by
  have g0:w.grownBy (w.alloc o1) none:=World.grownBy_alloc _ _ _;refine ⟨g1.os.trans g0.os,g1.tape.trans g0.tape,g1.output.trans g0.output,Nat.le_trans g0.size g1.size,fun b hb => grown2 g0 g1 (by omega) (fun e => ?_)⟩
  rcases h.row.2 with ⟨rfl,_⟩ | ⟨g,cap,cur,rfl,q1,_⟩
  · cases e
  · have:b = g:=by simpa [Value.ownBlock] using e
    omega
theorem zero64 (u:World):(zeroValue 2).run Tryz.prog u = .ok (.int .i64 0) u:=by kernel_rfl
theorem step_entry {ops:Array Oper} {o:Oper} {a:Act} {W w':World} {K:Act → World → Prop} {Q:Exit → Act → World → Prop} {F:Prop} (hg:o.guard = none) (t:TypeId) (m x:Operand) (hop:o.op = Op.mapEntry t m x) (b:Nat) (key v:Value) (hm:a.eval m = .map (some b)) (hx:a.eval x = key)
    (hrun:(Instr.mapEntry t (.map (some b)) key).run Tryz.prog W = .ok v w') (hK:K (a.put o.dst v) w'):if Region.wanted o (yielded ops a.tmps) = true then Oper.wp Tryz.prog o a W K Q else F:=by
  have hw:Region.wanted o (yielded ops a.tmps) = true:=by simp [Region.wanted,hg]
  rw [if_pos hw];unfold Oper.wp
  simp [execOp,hop,hm,hx,hrun,Result.andThen]
  exact hK
theorem step_estore {ops:Array Oper} {o:Oper} {a:Act} {W w':World} {K:Act → World → Prop} {Q:Exit → Act → World → Prop} {F:Prop} (hg:o.guard = none) (t:TypeId) (m x y:Operand) (hop:o.op = Op.entryStore t m x y) (b:Nat) (st v:Value) (hm:a.eval m = .map (some b)) (hx:a.eval x = st) (hy:a.eval y = v)
    (hrun:(Instr.entryStore t (.map (some b)) st v).run Tryz.prog W = .ok () w') (hK:K (a.put o.dst undef) w'):if Region.wanted o (yielded ops a.tmps) = true then Oper.wp Tryz.prog o a W K Q else F:=by
  have hw:Region.wanted o (yielded ops a.tmps) = true:=by simp [Region.wanted,hg]
  rw [if_pos hw];unfold Oper.wp
  simp [execOp,hop,hm,hx,hy,hrun,Result.andThen]
  exact hK
theorem mixedL:Tryz.prog.follows Departure.mixedOrders = true:=by kernel_rfl
def EntQ (w w':World) (v v':Value) (T:List Nat):Prop:=(v'.ownBlock = v.ownBlock ∨ ∃ g,w.heap.size ≤ g ∧ v'.ownBlock = some g) ∧ ∀ b,b < w.heap.size → b ∉ T → v.ownBlock ≠ some b → w'.heap[b]? = w.heap[b]?
theorem info_entry:(Tryz.prog.info? 108).map (fun i => (i.zero,i.size,i.bytes)) = some (some .nilIface,1,16):=by kernel_rfl
theorem ta00 (u:Value) (w:World):(Instr.typeAssert (.iface 118 u) 108 118 true).run Tryz.prog w = .ok (.tuple #[u,.bool true]) w:=by kernel_rfl
theorem ta10 (u:Value) (w:World):(Instr.typeAssert (.iface 147 u) 108 118 true).run Tryz.prog w = .ok (.tuple #[.agg #[.int .i64 0,.int .i64 0,.string ByteArray.empty,.int .i64 0,.int .i64 0,.int .i64 0,.slice none 0 0,.slice none 0 0,.slice none 0 0],.bool false]) w:=by kernel_rfl
theorem ta11 (u:Value) (w:World):(Instr.typeAssert (.iface 147 u) 108 147 true).run Tryz.prog w = .ok (.tuple #[u,.bool true]) w:=by kernel_rfl
theorem ta20 (u:Value) (w:World):(Instr.typeAssert (.iface 148 u) 108 118 true).run Tryz.prog w = .ok (.tuple #[.agg #[.int .i64 0,.int .i64 0,.string ByteArray.empty,.int .i64 0,.int .i64 0,.int .i64 0,.slice none 0 0,.slice none 0 0,.slice none 0 0],.bool false]) w:=by kernel_rfl
theorem ta21 (u:Value) (w:World):(Instr.typeAssert (.iface 148 u) 108 147 true).run Tryz.prog w = .ok (.tuple #[.agg #[.int .i64 0,.int .i64 0,.string ByteArray.empty,.int .i64 0,.int .i64 0,.int .i64 0,.slice none 0 0,.slice none 0 0,.slice none 0 0],.bool false]) w:=by kernel_rfl
theorem ta22 (u:Value) (w:World):(Instr.typeAssert (.iface 148 u) 108 148 true).run Tryz.prog w = .ok (.tuple #[u,.bool true]) w:=by kernel_rfl
theorem ta30 (u:Value) (w:World):(Instr.typeAssert (.iface 151 u) 108 118 true).run Tryz.prog w = .ok (.tuple #[.agg #[.int .i64 0,.int .i64 0,.string ByteArray.empty,.int .i64 0,.int .i64 0,.int .i64 0,.slice none 0 0,.slice none 0 0,.slice none 0 0],.bool false]) w:=by kernel_rfl
theorem ta31 (u:Value) (w:World):(Instr.typeAssert (.iface 151 u) 108 147 true).run Tryz.prog w = .ok (.tuple #[.agg #[.int .i64 0,.int .i64 0,.string ByteArray.empty,.int .i64 0,.int .i64 0,.int .i64 0,.slice none 0 0,.slice none 0 0,.slice none 0 0],.bool false]) w:=by kernel_rfl
theorem ta32 (u:Value) (w:World):(Instr.typeAssert (.iface 151 u) 108 148 true).run Tryz.prog w = .ok (.tuple #[.agg #[.int .i64 0,.int .i64 0,.string ByteArray.empty,.int .i64 0,.int .i64 0,.int .i64 0,.slice none 0 0,.slice none 0 0,.slice none 0 0],.bool false]) w:=by kernel_rfl
theorem ta33 (u:Value) (w:World):(Instr.typeAssert (.iface 151 u) 108 151 true).run Tryz.prog w = .ok (.tuple #[u,.bool true]) w:=by kernel_rfl
end Go.Proofs.YtfoidpcoiankoaaGreat
namespace Go.Proofs.YtfoidpcoiankoaaGreat
open Go.RowKit
theorem SL {α : Type} : (∀ (l : List α) (i : Nat) (v : α), l.toArray.setIfInBounds i v = (l.set i v).toArray) ∧ (∀ (a : α) (l : List α) (b : α), (a :: l).set 0 b = b :: l) ∧ (∀ (a : α) (l : List α) (n : Nat) (b : α), (a :: l).set (n + 1) b = a :: l.set n b) ∧ (∀ (l : List α) (i : Nat) (h : i < l.toArray.size), l.toArray[i] = l[i]'(by simpa using h)) ∧ (∀ (a : α) (l : List α) (n : Nat) (h : n + 1 < (a :: l).length), (a :: l)[n + 1] = l[n]'(by simpa using h)) ∧ ∀ (a : α) (l : List α) (h : 0 < (a :: l).length), (a :: l)[0] = a := ⟨fun _ _ _ => List.setIfInBounds_toArray .., fun _ _ _ => rfl, fun _ _ _ _ => rfl, fun _ _ _ => rfl, fun _ _ _ _ => rfl, fun _ _ _ => rfl⟩
section
variable {P:Program} {ops:Array Oper} {Q:Exit → Act → World → Prop} {md:Region.Mode} {S:World → Prop} {L:Nat}
def wpAnyM (P:Program) (md:Region.Mode) (ops:Array Oper) (Q:Exit → Act → World → Prop) (S:World → Prop) (L:Nat):Nat → Array Bool → Act → World → Prop
  | 0,listed,a,w => Region.ready md ops listed = [] ∧ Q .normal a w
  | fuel + 1,listed,a,w =>
    (Region.ready md ops listed = [] → Q .normal a w) ∧
    ∀ i ∈ Region.ready md ops listed,wpOp P ops Q i (fun a' w' => ((listed.setIfInBounds i true).getD L false = false → S w') ∧ wpAnyM P md ops Q S L fuel (listed.setIfInBounds i true) a' w') a w
theorem wpAny_of_M:∀ (fuel:Nat) (listed:Array Bool) (a:Act) (w:World),wpAnyM P md ops Q S L fuel listed a w → wpAny P md ops Q fuel listed a w
  | 0,_,_,_,h => h
  | fuel + 1,_,_,_,h => ⟨h.1,fun i hi => wpOp_mono (fun a' w' h' => wpAny_of_M fuel _ a' w' h'.2) (h.2 i hi)⟩
theorem wpAnyM_first {i:Nat} {oi:Oper} {v:Value} (hi:ops[i]? = some oi) (hsel:∀ (j:Nat) (o:Oper) cs b,ops[j]? = some o → o.op ≠ .select cs b)
    (hQ:∀ c a w,Q (.panic c) (a.put oi.dst v) w → Q (.panic c) a w) (hLi:L ≠ i) {n:Nat} (hd:depB md ops n L i = true) :
    ∀ (fuel:Nat) (listed:Array Bool) (a:Act) (w:World),ClosedP md ops listed →
      (∀ j oj,ops[j]? = some oj → j ≠ i → listed.getD j true = false → (∀ e ∈ oj.after,Region.binds md e = true → e.on ≠ i) → oi.apart ops oj = true) →
      i ∈ Region.ready md ops listed → YieldsIf P ops S oi v a → S w →
      wpAnyM P md ops Q S L fuel (listed.setIfInBounds i true) (a.put oi.dst v) w → wpAnyM P md ops Q S L (fuel + 1) listed a w:=by
  intro fuel
  induction fuel with
  | zero =>
    intro listed a w _ _ hr hy hS H;refine ⟨fun h => (by rw [h] at hr;cases hr),fun j hj => ?_⟩
    by_cases hji:j = i
    · subst hji;exact hy.wpOp hi hS ⟨fun _ => hS,H⟩
    · have:=ready_mono hj hji
      rw [H.1] at this
      cases this
  | succ fuel ih =>
    intro listed a w hcl hfree hr hy hS H;refine ⟨fun h => (by rw [h] at hr;cases hr),fun j hj => ?_⟩
    by_cases hji:j = i
    · subst hji;exact hy.wpOp hi hS ⟨fun _ => hS,H⟩
    · have hjL:j ≠ L:=fun h => by
        subst h;exact dep_waits hcl hLi hd (unlisted_false (mem_ready.1 hr).1) hj
      have h1:=H.2 j (ready_mono hj hji);obtain ⟨hjun,oj,hoj,hall⟩:=mem_ready.1 hj
      have hnot:∀ e ∈ oj.after,Region.binds md e = true → e.on ≠ i:=fun e he hb heq => by
        have h1:=hall e he hb;have h0:=unlisted_false (mem_ready.1 hr).1;rw [heq,h0] at h1
        cases h1
      have h2:=wpOp_putIf hoj (hfree j oj hoj hji hjun hnot) (fun cs b => hsel i oi cs b hi) (fun cs b => hsel j oj cs b hoj) hQ hy h1
      have hfree':∀ k ok,ops[k]? = some ok → k ≠ i → (listed.setIfInBounds j true).getD k true = false →
          (∀ e ∈ ok.after,Region.binds md e = true → e.on ≠ i) → oi.apart ops ok = true:=fun k ok hk hki hun hno => by
        refine hfree k ok hk hki ?_ hno
        by_cases hjk:j = k
        · subst hjk;exact hjun
        · rw [getD_set_ne true hjk] at hun;exact hun
      have hLn:(listed.setIfInBounds j true).getD L false = false:=by
        rw [getD_set_ne false hjL]
        cases hg:listed.getD L false with
        | false => rfl
        | true => have:=dep_listed hcl n L i hd hg;rw [unlisted_false (mem_ready.1 hr).1] at this;cases this
      have hLn2:((listed.setIfInBounds i true).setIfInBounds j true).getD L false = false:=by
        rw [← Array.setIfInBounds_comm _ _ hji,getD_set_ne false (Ne.symm hLi)];exact hLn
      refine wpOp_mono (fun a' w' h3 => ⟨fun _ => h3.2.1 hLn2,ih (listed.setIfInBounds j true) a' w' (closed_step hcl hj) hfree' (ready_mono hr (Ne.symm hji)) h3.1 (h3.2.1 hLn2) ?_⟩) h2;rw [Array.setIfInBounds_comm _ _ hji];exact h3.2.2
theorem wpAnyM_pure0 {i:Nat} {oi:Oper} {v:Value} (hi:ops[i]? = some oi) (hsel:∀ (j:Nat) (o:Oper) cs b,ops[j]? = some o → o.op ≠ .select cs b)
    (hQ:∀ c a w,Q (.panic c) (a.put oi.dst v) w → Q (.panic c) a w) (hLi:L ≠ i) :
    ∀ (fuel:Nat) (listed:Array Bool) (a:Act) (w:World),ClosedP md ops listed →
      (∀ j oj,ops[j]? = some oj → j ≠ i → listed.getD j true = false → (∀ e ∈ oj.after,Region.binds md e = true → e.on ≠ i) → oi.apart ops oj = true) →
      i ∈ Region.ready md ops listed → YieldsIf P ops (fun _ => True) oi v a → ((listed.setIfInBounds i true).getD L false = false → S w) →
      wpAnyM P md ops Q S L fuel (listed.setIfInBounds i true) (a.put oi.dst v) w → wpAnyM P md ops Q S L (fuel + 1) listed a w:=by
  intro fuel
  induction fuel with
  | zero =>
    intro listed a w _ _ hr hy hS H;refine ⟨fun h => (by rw [h] at hr;cases hr),fun j hj => ?_⟩
    by_cases hji:j = i
    · subst hji;exact hy.wpOp hi trivial ⟨hS,H⟩
    · have:=ready_mono hj hji
      rw [H.1] at this
      cases this
  | succ fuel ih =>
    intro listed a w hcl hfree hr hy hS H;refine ⟨fun h => (by rw [h] at hr;cases hr),fun j hj => ?_⟩
    by_cases hji:j = i
    · subst hji;exact hy.wpOp hi trivial ⟨hS,H⟩
    · skip
      have h1:=H.2 j (ready_mono hj hji);obtain ⟨hjun,oj,hoj,hall⟩:=mem_ready.1 hj
      have hnot:∀ e ∈ oj.after,Region.binds md e = true → e.on ≠ i:=fun e he hb heq => by
        have h1:=hall e he hb;have h0:=unlisted_false (mem_ready.1 hr).1;rw [heq,h0] at h1
        cases h1
      have h2:=wpOp_putIf hoj (hfree j oj hoj hji hjun hnot) (fun cs b => hsel i oi cs b hi) (fun cs b => hsel j oj cs b hoj) hQ hy h1
      have hfree':∀ k ok,ops[k]? = some ok → k ≠ i → (listed.setIfInBounds j true).getD k true = false →
          (∀ e ∈ ok.after,Region.binds md e = true → e.on ≠ i) → oi.apart ops ok = true:=fun k ok hk hki hun hno => by
        refine hfree k ok hk hki ?_ hno
        by_cases hjk:j = k
        · subst hjk;exact hjun
        · rw [getD_set_ne true hjk] at hun;exact hun
      refine wpOp_mono (fun a' w' h3 => ?_) h2;have hk:((listed.setIfInBounds j true).setIfInBounds i true).getD L false = false → S w':=fun hn => h3.2.1 (by rw [Array.setIfInBounds_comm _ _ (Ne.symm hji)];exact hn);refine ⟨fun hn => ?_,ih (listed.setIfInBounds j true) a' w' (closed_step hcl hj) hfree' (ready_mono hr (Ne.symm hji)) h3.1 hk ?_⟩
      · exact hk (by rw [getD_set_ne false (Ne.symm hLi)];exact hn)
      · rw [Array.setIfInBounds_comm _ _ hji]
        exact h3.2.2
theorem wpAnyM_pure {i:Nat} {oi:Oper} {v:Value} {fuel:Nat} {listed:Array Bool} {a:Act} {w:World} (hi:ops[i]? = some oi)
    (hs:(Region.noSelect ops && Region.free md ops listed i && (Region.ready md ops listed).contains i && !(L == i) && closedB md ops listed) = true)
    (hQ:∀ c a w,Q (.panic c) (a.put oi.dst v) w → Q (.panic c) a w) (hy:YieldsIf P ops (fun _ => True) oi v a) (hS:S w)
    (h:wpAnyM P md ops Q S L fuel (listed.setIfInBounds i true) (a.put oi.dst v) w):wpAnyM P md ops Q S L (fuel + 1) listed a w:=by
  simp only [Bool.and_eq_true,Bool.not_eq_true',beq_eq_false_iff_ne] at hs
  obtain ⟨⟨⟨⟨h1,h2⟩,h3⟩,h4⟩,h6⟩:=hs;exact wpAnyM_pure0 hi (Region.noSelect_spec h1) hQ h4 fuel listed a w (closed_of h6) (Region.free_spec hi h2) (by simpa using h3) hy (fun _ => hS) h
theorem wpAnyM_pureL {i:Nat} {oi:Oper} {v:Value} {fuel:Nat} {listed:Array Bool} {a:Act} {w:World} (hi:ops[i]? = some oi)
    (hs:(Region.noSelect ops && Region.free md ops listed i && (Region.ready md ops listed).contains i && !(L == i) && closedB md ops listed && listed.getD L false) = true)
    (hQ:∀ c a w,Q (.panic c) (a.put oi.dst v) w → Q (.panic c) a w) (hy:YieldsIf P ops (fun _ => True) oi v a)
    (h:wpAnyM P md ops Q S L fuel (listed.setIfInBounds i true) (a.put oi.dst v) w):wpAnyM P md ops Q S L (fuel + 1) listed a w:=by
  simp only [Bool.and_eq_true,Bool.not_eq_true',beq_eq_false_iff_ne] at hs
  obtain ⟨⟨⟨⟨⟨h1,h2⟩,h3⟩,h4⟩,h6⟩,h7⟩:=hs;exact wpAnyM_pure0 hi (Region.noSelect_spec h1) hQ h4 fuel listed a w (closed_of h6) (Region.free_spec hi h2) (by simpa using h3) hy (fun hn => by rw [getD_set_ne false (Ne.symm h4),h7] at hn;cases hn) h
theorem wpAnyM_take {i:Nat} {oi:Oper} {v:Value} {fuel:Nat} {listed:Array Bool} {a:Act} {w:World} (n:Nat) (hi:ops[i]? = some oi)
    (hs:(Region.noSelect ops && Region.free md ops listed i && (Region.ready md ops listed).contains i && !(L == i) && depB md ops n L i && closedB md ops listed) = true)
    (hQ:∀ c a w,Q (.panic c) (a.put oi.dst v) w → Q (.panic c) a w) (hy:YieldsIf P ops S oi v a) (hS:S w)
    (h:wpAnyM P md ops Q S L fuel (listed.setIfInBounds i true) (a.put oi.dst v) w):wpAnyM P md ops Q S L (fuel + 1) listed a w:=by
  simp only [Bool.and_eq_true,Bool.not_eq_true',beq_eq_false_iff_ne] at hs
  obtain ⟨⟨⟨⟨⟨h1,h2⟩,h3⟩,h4⟩,h5⟩,h6⟩:=hs;exact wpAnyM_first hi (Region.noSelect_spec h1) hQ h4 h5 fuel listed a w (closed_of h6) (Region.free_spec hi h2) (by simpa using h3) hy hS h
theorem wpAnyM_one {i:Nat} {o:Oper} {fuel:Nat} {listed:Array Bool} {a:Act} {w:World} (ho:ops[i]? = some o) (hr:Region.ready md ops listed = [i]) (hL:(listed.setIfInBounds i true).getD L false = true)
    (h:∀ K':Act → World → Prop,Shut (∀ a w,wpAnyM P md ops Q S L fuel (listed.setIfInBounds i true) a w → K' a w) → if Region.wanted o (yielded ops a.tmps) = true then Oper.wp P o a w K' Q else K' (a.put o.dst undef) w):wpAnyM P md ops Q S L (fuel + 1) listed a w:=by
  refine ⟨fun h0 => (by rw [hr] at h0;cases h0),fun j hj => ?_⟩;rw [hr] at hj
  obtain rfl:j = i:=by simpa using hj
  exact wpOp_step ho (fun K' hK => h K' (fun a w hW => hK a w ⟨fun hn => (by rw [hL] at hn;cases hn),hW⟩))
theorem wpAnyM_done {listed:Array Bool} {a:Act} {w:World} (hr:Region.ready md ops listed = []) (h:Q .normal a w):∀ fuel,wpAnyM P md ops Q S L fuel listed a w
  | 0 => ⟨hr,h⟩
  | _ + 1 => ⟨fun _ => h,by rw [hr];simp⟩
theorem wp_region_M {id:Nat} {a:Act} {w:World} (L:Nat) (S:World → Prop) (hm:P.follows .mixedOrders = true) (hS:S w.drew)
    (h:S w.drew → wpAnyM P .any ops Q S L ops.size (Array.replicate ops.size false) a w.drew):(Code.region id ops true).wp P Q a w :=
  wp_region_any hm (wpAny_of_M _ _ _ _ (h hS))
theorem wpAnyM_store {i:Nat} {o:Oper} {fuel:Nat} {listed:Array Bool} {a:Act} {w:World} (ho:ops[i]? = some o) (hr:Region.ready md ops listed = [i]) (hL:(listed.setIfInBounds i true).getD L false = true) (hg:o.guard = none) (hd:o.dst = none) (T:TypeId) (x y:Operand) (hop:o.op = .store T x y)
    (b off:Nat) (cells:List Value) (hx:a.eval x = .pointer (some ⟨b,off,none⟩)) (hy:a.eval y = .agg cells.toArray) (ht:w.there b off cells.length) (hi:(P.info? T).map (·.size) = some cells.length) (h1:∀ v,v ∈ cells → v.oneCell' = true)
    (h:wpAnyM P md ops Q S L fuel (listed.setIfInBounds i true) a (w.setCells b off cells)):wpAnyM P md ops Q S L (fuel + 1) listed a w:=by
  refine wpAnyM_one ho hr hL (fun KC hKC => ?_)
  have hw:Region.wanted o (yielded ops a.tmps) = true:=by simp [Region.wanted,hg]
  rw [if_pos hw];refine wp_store_mid T x y hop b off cells.toArray hx hy (by simpa using ht) (by simpa using hi) (by simpa using h1) ?_
  have e:a.put o.dst undef = a:=by rw [hd];rfl
  rw [e];exact hKC _ _ h
end
end Go.Proofs.YtfoidpcoiankoaaGreat
namespace Go.Proofs.YtfoidpcoiankoaaGreat
open Go.RowKit F256
end Go.Proofs.YtfoidpcoiankoaaGreat
namespace Go.Proofs.YtfoidpcoiankoaaGreat
open Go.RowKit F256
theorem run_append_none' {P:Program} (w:World) (base:Nat) (t ty e:TypeId) (i:TypeInfo) (size:Nat) (ht:P.underlying t = some (.slice e)) (hi:P.info? e = some i) (v:Value) (n c:Nat) (xs:List Value) (hown:w.ownsRow base e size v n xs) :
    (Builtin.append_ #[t,t] ty #[v,.slice none 0 c]).run P w = .ok v w:=by
  rcases hown.2 with ⟨rfl,rfl⟩ | ⟨g,cap,cur,rfl,_,_,hnc,_⟩
  · simp [Builtin.append_,run_underlying ht,sizeOf,typeInfo,hi,Builtin.lenOf,Builtin.firstCells]
  · simp [Builtin.append_,run_underlying ht,sizeOf,typeInfo,hi,Builtin.lenOf,Builtin.firstCells,hnc,storeCells]
theorem wp_run2 {ops:Array Oper} {rest:List Oper} {o:Oper} {a:Act} {W w':World} {Q:Exit → Act → World → Prop} {T:TypeId} {v' x1 x2:Value} (hg:o.guard = none) (s y:Operand) (hop:o.op = Op.call { callee:=Callee.builtin Builtin.append,args:=#[s,y],argTypes:=#[T,T] })
    (h1:a.eval s = x1) (h2:a.eval y = x2) (hrun:(Builtin.append_ #[T,T] o.type #[x1,x2]).run Tryz.prog W = .ok v' w') (hK:wpList Tryz.prog ops Q rest (a.put o.dst v') w'):wpList Tryz.prog ops Q (o :: rest) a W:=by
  refine wpList_plain hg fun K hK' => ?_;unfold Oper.wp
  simp [execOp,hop,resolve,invoke,builtin,h1,h2,hrun,Result.andThen]
  exact hK' _ _ hK
theorem step_run2 {ops:Array Oper} {o:Oper} {a:Act} {W w':World} {K:Act → World → Prop} {Q:Exit → Act → World → Prop} {F:Prop} {T:TypeId} {v' x1 x2:Value} (hg:o.guard = none) (s y:Operand) (hop:o.op = Op.call { callee:=Callee.builtin Builtin.append,args:=#[s,y],argTypes:=#[T,T] })
    (h1:a.eval s = x1) (h2:a.eval y = x2) (hrun:(Builtin.append_ #[T,T] o.type #[x1,x2]).run Tryz.prog W = .ok v' w') (hK:K (a.put o.dst v') w'):if Region.wanted o (yielded ops a.tmps) = true then Oper.wp Tryz.prog o a W K Q else F:=by
  have hw:Region.wanted o (yielded ops a.tmps) = true:=by simp [Region.wanted,hg]
  rw [if_pos hw];unfold Oper.wp
  simp [execOp,hop,resolve,invoke,builtin,h1,h2,hrun,Result.andThen]
  exact hK
end Go.Proofs.YtfoidpcoiankoaaGreat
namespace Go.Proofs.YtfoidpcoiankoaaGreat
open Go.RowKit
section
variable {P:Program} {ops:Array Oper} {Q:Exit → Act → World → Prop} {md:Region.Mode} {S:World → Prop} {L:Nat}
theorem wpAnyM_oneS {i:Nat} {o:Oper} {fuel:Nat} {listed:Array Bool} {a:Act} {w:World} (ho:ops[i]? = some o) (hr:Region.ready md ops listed = [i])
    (h:∀ K':Act → World → Prop,Shut (∀ a w,S w → wpAnyM P md ops Q S L fuel (listed.setIfInBounds i true) a w → K' a w) → if Region.wanted o (yielded ops a.tmps) = true then Oper.wp P o a w K' Q else K' (a.put o.dst undef) w):wpAnyM P md ops Q S L (fuel + 1) listed a w:=by
  refine ⟨fun h0 => (by rw [hr] at h0;cases h0),fun j hj => ?_⟩;rw [hr] at hj
  obtain rfl:j = i:=by simpa using hj
  exact wpOp_step ho (fun K' hK => h K' (fun a w hS hW => hK a w ⟨fun _ => hS,hW⟩))
theorem wpAnyM_twoS {i j:Nat} {o o':Oper} {fuel:Nat} {listed:Array Bool} {a:Act} {w:World} (ho:ops[i]? = some o) (ho':ops[j]? = some o') (hr:Region.ready md ops listed = [i,j])
    (h:∀ K':Act → World → Prop,Shut (∀ a w,S w → wpAnyM P md ops Q S L fuel (listed.setIfInBounds i true) a w → K' a w) → if Region.wanted o (yielded ops a.tmps) = true then Oper.wp P o a w K' Q else K' (a.put o.dst undef) w)
    (h':∀ K':Act → World → Prop,Shut (∀ a w,S w → wpAnyM P md ops Q S L fuel (listed.setIfInBounds j true) a w → K' a w) → if Region.wanted o' (yielded ops a.tmps) = true then Oper.wp P o' a w K' Q else K' (a.put o'.dst undef) w):wpAnyM P md ops Q S L (fuel + 1) listed a w:=by
  refine ⟨fun h0 => (by rw [hr] at h0;cases h0),fun k hk => ?_⟩;rw [hr] at hk
  simp only [List.mem_cons,List.not_mem_nil,or_false] at hk
  rcases hk with rfl | rfl
  · exact wpOp_step ho (fun K' hK => h K' (fun a w hS hW => hK a w ⟨fun _ => hS,hW⟩))
  · exact wpOp_step ho' (fun K' hK => h' K' (fun a w hS hW => hK a w ⟨fun _ => hS,hW⟩))
end
theorem step_build0 {ops:Array Oper} {o:Oper} {a:Act} {W:World} {K:Act → World → Prop} {Q:Exit → Act → World → Prop} {F:Prop} (hg:o.guard = none) (hop:o.op = Op.buildSlice 54 0 #[])
    (hK:K (a.put o.dst (.slice (some ⟨W.heap.size,0,none⟩) 0 0)) (W.alloc (.cells #[] 66))):if Region.wanted o (yielded ops a.tmps) = true then Oper.wp Tryz.prog o a W K Q else F:=by
  have hw:Region.wanted o (yielded ops a.tmps) = true:=by simp [Region.wanted,hg]
  rw [if_pos hw];unfold Oper.wp execOp
  simp only [hop]
  go_simp;exact hK
theorem step_build1 {ops:Array Oper} {o:Oper} {a:Act} {W:World} {K:Act → World → Prop} {Q:Exit → Act → World → Prop} {F:Prop} (hg:o.guard = none) (x:Operand) (hop:o.op = Op.buildSlice 54 1 #[(0,x)]) (r:RecD) (b6 b7 b8:Option Addr) (bk6 bk7 bk8:Nat) (hx:a.eval x = .agg #[.int .i64 r.kind,.int .i64 r.seq,.string r.name,.int .i64 r.length,.int .i64 r.group,.int .i64 r.row,.slice b6 r.rows.1 bk6,.slice b7 r.data.1 bk7,.slice b8 r.delta.1 bk8])
    (hK:K (a.put o.dst (.slice (some ⟨W.heap.size,0,none⟩) 1 1)) (W.alloc (.cells #[.int .i64 r.kind,.int .i64 r.seq,.string r.name,.int .i64 r.length,.int .i64 r.group,.int .i64 r.row,.slice b6 r.rows.1 bk6,.slice b7 r.data.1 bk7,.slice b8 r.delta.1 bk8] 66))):if Region.wanted o (yielded ops a.tmps) = true then Oper.wp Tryz.prog o a W K Q else F:=by
  have hw:Region.wanted o (yielded ops a.tmps) = true:=by simp [Region.wanted,hg]
  rw [if_pos hw];unfold Oper.wp execOp
  simp only [hop,List.map_toArray,List.map_cons,List.map_nil,hx]
  go_simp;exact hK
theorem step_build1R {ops:Array Oper} {o:Oper} {a:Act} {W:World} {K:Act → World → Prop} {Q:Exit → Act → World → Prop} {F:Prop} (hg:o.guard = none) (x:Operand) (hop:o.op = Op.buildSlice 54 1 #[(0,x)]) {w0:World} {hi0:Nat} {r:RecD} {cs:List Value} (hr:layRec.rd w0 hi0 r cs) (hx:a.eval x = .agg cs.toArray)
    (hK:K (a.put o.dst (.slice (some ⟨W.heap.size,0,none⟩) 1 1)) (W.alloc (.cells cs.toArray 66))):if Region.wanted o (yielded ops a.tmps) = true then Oper.wp Tryz.prog o a W K Q else F:=by
  obtain ⟨b6,bk6,b7,bk7,b8,bk8,rfl,-⟩:=Rec_rd hr;exact step_build1 hg x hop r b6 b7 b8 bk6 bk7 bk8 hx hK
end Go.Proofs.YtfoidpcoiankoaaGreat
namespace Go.Proofs.YtfoidpcoiankoaaGreat
open Go.RowKit F256
open Go.Maps (Keyed)
set_option maxHeartbeats 8000000 in
set_option maxRecDepth 20000 in
theorem enter_item {w:World} {lo B:Nat} {s:Nat → Int} {k:Nat} {x:Nat → RecD} {ce:Nat → List Value} {v:Value} {b1 b2 b3 b4 b5:Nat} (h:Ldg w lo B s k k x ce v b1 b2 b3 b4 b5) (hk:k ≤ 1000000) (hlo:lo ≤ w.heap.size)
    {r:RecD} {ao6 ao7 ao8:Option Addr} {cap6 cap7 cap8:Nat} (hx:x k = r) (hc:ce k = [.int .i64 r.kind,.int .i64 r.seq,.string r.name,.int .i64 r.length,.int .i64 r.group,.int .i64 r.row,.slice ao6 r.rows.1 cap6,.slice ao7 r.data.1 cap7,.slice ao8 r.delta.1 cap8]) (hkd:r.kind = 1) (hn:r.name.size ≤ maxLen) (hs:-9223372036854775808 ≤ r.seq ∧ r.seq ≤ 9223372036854775807) (hg:-9223372036854775808 ≤ r.group ∧ r.group ≤ 9223372036854775807) (hw:-9223372036854775808 ≤ r.row ∧ r.row ≤ 9223372036854775807) :
    Calls Tryz.prog 63 #[.pointer (some ⟨B,0,none⟩),.iface 118 (.agg #[.int .i64 r.kind,.int .i64 r.seq,.string r.name,.int .i64 r.length,.int .i64 r.group,.int .i64 r.row,.slice ao6 r.rows.1 cap6,.slice ao7 r.data.1 cap7,.slice ao8 r.delta.1 cap8])] w fun e w' => e = .returned (.tuple #[]) ∧ (∃ v',Ldg w' lo B s (k + 1) (k + 1) x ce v' b1 b2 b3 b4 b5 ∧ EntQ w w' v v' [B,b1,b2,b3,b4,b5]) ∧ Below lo w w':=by
  have HX:Hid (x k = r):=hx;have HC:Hid (ce k = [.int .i64 r.kind,.int .i64 r.seq,.string r.name,.int .i64 r.length,.int .i64 r.group,.int .i64 r.row,.slice ao6 r.rows.1 cap6,.slice ao7 r.data.1 cap7,.slice ao8 r.delta.1 cap8]):=hc;have HKD:Hid (r.kind = 1):=hkd
  have HEV:Hid (entV (x k).kind (ce k) = .iface 118 (.agg #[.int .i64 r.kind,.int .i64 r.seq,.string r.name,.int .i64 r.length,.int .i64 r.group,.int .i64 r.row,.slice ao6 r.rows.1 cap6,.slice ao7 r.data.1 cap7,.slice ao8 r.delta.1 cap8])):=by
    show entV (x k).kind (ce k) = .iface 118 (.agg #[.int .i64 r.kind,.int .i64 r.seq,.string r.name,.int .i64 r.length,.int .i64 r.group,.int .i64 r.row,.slice ao6 r.rows.1 cap6,.slice ao7 r.data.1 cap7,.slice ao8 r.delta.1 cap8])
    unfold entV entT;rw [hx,hc]
    simp [hkd]
  clear hx hc hkd;obtain ⟨i0,hi,hz0,hz1,hz2⟩:=info_parts info_entry;have HL:Hid (Ldg w lo B s k k x ce v b1 b2 b3 b4 b5):=h;obtain ⟨ao,cap,hv⟩:=rowE_slice h.row;subst hv;have x9:w.cell? ⟨B,9,none⟩ = some (.slice ao k cap):=h.box.cell 9;have O0:=h.row;clear h;have TA:=ta00;have bA:w.grownBy (w.alloc (.cells #[.iface 118 (.agg #[.int .i64 r.kind,.int .i64 r.seq,.string r.name,.int .i64 r.length,.int .i64 r.group,.int .i64 r.row,.slice ao6 r.rows.1 cap6,.slice ao7 r.data.1 cap7,.slice ao8 r.delta.1 cap8])] 108)) none:=World.grownBy_alloc _ _ _
  go_enter Tryz.func63,Tryz.ntmps63
  go_upto_region 4 with (at_builtin;refine wpList_append_own_at _ rfl _ _ 102 rfl lo 108 i0 .nilIface 1 16 Tryz.underlying102 hi hz0 hz1 hz2 rfl (by decide) _ _ _ rfl (O0.alloc _) ⟨w.heap.size,0,none⟩ 1 1 [.iface 118 (.agg #[.int .i64 r.kind,.int .i64 r.seq,.string r.name,.int .i64 r.length,.int .i64 r.group,.int .i64 r.row,.slice ao6 r.rows.1 cap6,.slice ao7 r.data.1 cap7,.slice ao8 r.delta.1 cap8])] rfl rfl (cell_one_new _ _ _) (fun u hu => by simp at hu;subst hu;rfl) (by unfold maxLen;omega) (by omega) (by simp;omega) ?_;intro v' w1 O1 g1 hnil hloc;obtain ⟨ao',cap',rfl⟩:=rowE_slice O1;have L1:=HL.out.grown bA g1;have z9:=L1.cell 9;have z9f:=L1.frozen 9;clear hnil)
  have L2:Ldg ((w1.setCell ⟨B,9,none⟩ (.slice ao' (k + 1) cap')).alloc (.cells #[.int .i64 r.kind,.int .i64 r.seq,.string r.name,.int .i64 r.length,.int .i64 r.group,.int .i64 r.row,.slice ao6 r.rows.1 cap6,.slice ao7 r.data.1 cap7,.slice ao8 r.delta.1 cap8] 118)) lo B s (k + 1) k x ce (.slice ao' (k + 1) cap') b1 b2 b3 b4 b5:=HL.out.laid g1 (by rw [HEV.out];exact O1) hloc
  have X2:Box ((w1.setCell ⟨B,9,none⟩ (.slice ao' (k + 1) cap')).alloc (.cells #[.int .i64 r.kind,.int .i64 r.seq,.string r.name,.int .i64 r.length,.int .i64 r.group,.int .i64 r.row,.slice ao6 r.rows.1 cap6,.slice ao7 r.data.1 cap7,.slice ao8 r.delta.1 cap8] 118)) w1.heap.size #[.int .i64 r.kind,.int .i64 r.seq,.string r.name,.int .i64 r.length,.int .i64 r.group,.int .i64 r.row,.slice ao6 r.rows.1 cap6,.slice ao7 r.data.1 cap7,.slice ao8 r.delta.1 cap8] 118:=by
    have:=box_new (w1.setCell ⟨B,9,none⟩ (.slice ao' (k + 1) cap')) #[.int .i64 r.kind,.int .i64 r.seq,.string r.name,.int .i64 r.length,.int .i64 r.group,.int .i64 r.row,.slice ao6 r.rows.1 cap6,.slice ao7 r.data.1 cap7,.slice ao8 r.delta.1 cap8] 118;rw [show (w1.setCell ⟨B,9,none⟩ (.slice ao' (k + 1) cap')).heap.size = w1.heap.size by simp] at this;exact this
  have B2:Below lo w ((w1.setCell ⟨B,9,none⟩ (.slice ao' (k + 1) cap')).alloc (.cells #[.int .i64 r.kind,.int .i64 r.seq,.string r.name,.int .i64 r.length,.int .i64 r.group,.int .i64 r.row,.slice ao6 r.rows.1 cap6,.slice ao7 r.data.1 cap7,.slice ao8 r.delta.1 cap8] 118)):=by
    have q1:Below lo w w1:=below_grown HL.out g1 hlo;exact (q1.setCell HL.out.low.1 _).alloc (by have:=q1.size;simp;omega) _
  have A2:∀ b,b < w.heap.size → b ≠ B → (Value.slice ao k cap).ownBlock ≠ some b → ((w1.setCell ⟨B,9,none⟩ (.slice ao' (k + 1) cap')).alloc (.cells #[.int .i64 r.kind,.int .i64 r.seq,.string r.name,.int .i64 r.length,.int .i64 r.group,.int .i64 r.row,.slice ao6 r.rows.1 cap6,.slice ao7 r.data.1 cap7,.slice ao8 r.delta.1 cap8] 118)).heap[b]? = w.heap[b]?:=fun b hb hB hv => by
    have sz:w.heap.size + 1 ≤ w1.heap.size:=by have:=g1.size;simp at this;omega
    rw [Below.heap_alloc _ _ b (by simp;omega),heap_setCell_other w1 ⟨B,9,none⟩ b _ hB];exact grown2 bA g1 hb (fun e => hv e.symm)
  have HLO:Hid ((Value.slice ao' (k + 1) cap').ownBlock = (Value.slice ao k cap).ownBlock ∨ ∃ g,w.heap.size ≤ g ∧ (Value.slice ao' (k + 1) cap').ownBlock = some g):=hloc.imp id (fun e => ⟨_,by simp,e⟩);obtain ⟨W2,hW2⟩:∃ y,y = ((w1.setCell ⟨B,9,none⟩ (.slice ao' (k + 1) cap')).alloc (.cells #[.int .i64 r.kind,.int .i64 r.seq,.string r.name,.int .i64 r.length,.int .i64 r.group,.int .i64 r.row,.slice ao6 r.rows.1 cap6,.slice ao7 r.data.1 cap7,.slice ao8 r.delta.1 cap8] 118)):=⟨_,rfl⟩;rw [← hW2] at L2 X2 B2 A2 ⊢;clear hW2 TA  O0 O1 g1 hloc bA x9 z9 z9f L1 hi hz0 hz1 hz2;refine wp_region_still_tail 9 (by kernel_rfl) (by kernel_rfl) ?_;obtain ⟨WB,hWB⟩:∃ y:World,y = { W2 with drawn:=W2.drawn + 1 }:=⟨_,rfl⟩
  have L3:Ldg WB lo B s (k + 1) k x ce (.slice ao' (k + 1) cap') b1 b2 b3 b4 b5:=by rw [hWB];exact L2.drawn _
  have X3:Box WB w1.heap.size #[.int .i64 r.kind,.int .i64 r.seq,.string r.name,.int .i64 r.length,.int .i64 r.group,.int .i64 r.row,.slice ao6 r.rows.1 cap6,.slice ao7 r.data.1 cap7,.slice ao8 r.delta.1 cap8] 118:=by rw [hWB];exact X2
  have B3:Below lo w WB:=by rw [hWB];exact ⟨B2.os,B2.tape,B2.output,B2.size,B2.block⟩
  have HA3:Hid (∀ b,b < w.heap.size → b ≠ B → (Value.slice ao k cap).ownBlock ≠ some b → WB.heap[b]? = w.heap[b]?):=by rw [hWB];exact A2
  rw [← hWB];clear hWB L2 X2 B2 A2;have HL3:Hid (Ldg WB lo B s (k + 1) k x ce (.slice ao' (k + 1) cap') b1 b2 b3 b4 b5):=L3;have HZ3:Hid (w.heap.size ≤ WB.heap.size):=B3.size;have HB3:Hid (Below lo w WB):=B3;have c0:WB.cell? ⟨w1.heap.size,0,none⟩ = some (.int .i64 r.kind):=X3.cell 0;have c1:WB.cell? ⟨w1.heap.size,1,none⟩ = some (.int .i64 r.seq):=X3.cell 1;have c2:WB.cell? ⟨w1.heap.size,2,none⟩ = some (.string r.name):=X3.cell 2;have c3:WB.cell? ⟨w1.heap.size,3,none⟩ = some (.int .i64 r.length):=X3.cell 3;have c4:WB.cell? ⟨w1.heap.size,4,none⟩ = some (.int .i64 r.group):=X3.cell 4;have c5:WB.cell? ⟨w1.heap.size,5,none⟩ = some (.int .i64 r.row):=X3.cell 5;have c6:WB.cell? ⟨w1.heap.size,6,none⟩ = some (.slice ao6 r.rows.1 cap6):=X3.cell 6;have c7:WB.cell? ⟨w1.heap.size,7,none⟩ = some (.slice ao7 r.data.1 cap7):=X3.cell 7;have c8:WB.cell? ⟨w1.heap.size,8,none⟩ = some (.slice ao8 r.delta.1 cap8):=X3.cell 8;have d1:WB.cell? ⟨B,10,none⟩ = some (.map (some b1)):=L3.box.cell 10;obtain ⟨kl,hkl⟩:=keyOf_S hn;obtain ⟨w',hrun,M,G,S⟩:=L3.m1.put keyS Tryz.underlying98 (by unfold maxLen;omega) hkl (.agg #[.int .i64 r.kind,.int .i64 r.seq,.string r.name,.int .i64 r.length,.int .i64 r.group,.int .i64 r.row,.slice ao6 r.rows.1 cap6,.slice ao7 r.data.1 cap7,.slice ao8 r.delta.1 cap8]);have HM:Hid (MapV w' 9 b1 (k + 1) (putF (newF x ce k) (.string r.name) (.agg #[.int .i64 r.kind,.int .i64 r.seq,.string r.name,.int .i64 r.length,.int .i64 r.group,.int .i64 r.row,.slice ao6 r.rows.1 cap6,.slice ao7 r.data.1 cap7,.slice ao8 r.delta.1 cap8]))):=M;have HE:Hid (∀ b,b < WB.heap.size → b ∉ [b1] → w'.heap[b]? = WB.heap[b]?):=fun b hb hn => G.block b hb (fun e => by cases e;simp at hn);have HBE:Hid (Below lo w w'):=B3.trans ⟨G.os,G.tape,G.output,G.size,fun b hb => G.block b (by have:=B3.size;omega) (fun e => by cases e;have:=L3.low;omega)⟩;clear M G L3 X3 B3 hkl
  simp only [List.take_succ_cons,List.take_zero,List.drop_succ_cons,List.drop_zero]
  repeat still_step
  refine wpStill_nil ?_;go_wp2;refine bodyPost_end (v:=.tuple #[]) (by simp [results,Tryz.results63]) rfl ?_
  exact ⟨rfl,⟨_,HL3.out.next (T:=[b1]) HE.out (fun b hb => by simp at hb ⊢;omega) (by rw [show newF x ce (k + 1) = putF (newF x ce k) (.string (x k).name) (.agg (ce k).toArray) from lastF_put (show (x k).kind = 1 by rw [HX.out,HKD.out]),HX.out,HC.out];exact HM.out)
    (by rw [show movF x (k + 1) = movF x k from cntF_skip (show ¬ (x k).kind = 2 by rw [HX.out,HKD.out];decide)];exact (HL3.out.m2.block (HE.out b2 HL3.out.m2.lt (by have:=HL3.out.nd;simp at this ⊢;omega))).mono (Nat.le_succ k))
    (by rw [show donF x (k + 1) = donF x k from cntF_skip (show ¬ (x k).kind = 3 by rw [HX.out,HKD.out];decide)];exact (HL3.out.m3.block (HE.out b3 HL3.out.m3.lt (by have:=HL3.out.nd;simp at this ⊢;omega))).mono (Nat.le_succ k))
    (by rw [show endF x (k + 1) = endF x k from cntF_skip (show ¬ (x k).kind = 3 by rw [HX.out,HKD.out];decide)];exact (HL3.out.m4.block (HE.out b4 HL3.out.m4.lt (by have:=HL3.out.nd;simp at this ⊢;omega))).mono (Nat.le_succ k))
    (by rw [show shaF x (k + 1) = shaF x k from lastF_skip (show ¬ (x k).kind = 4 by rw [HX.out,HKD.out];decide)];exact (HL3.out.m5.block (HE.out b5 HL3.out.m5.lt (by have:=HL3.out.nd;simp at this ⊢;omega))).mono (Nat.le_succ k)),⟨HLO.out,fun b hb hT hv => (HE.out b (Nat.lt_of_lt_of_le hb HZ3.out) (fun q => hT (by simp at q ⊢;omega))).trans (HA3.out b hb (fun e => hT (by rw [e];simp)) hv)⟩⟩,HBE.out⟩
set_option maxHeartbeats 8000000 in
set_option maxRecDepth 20000 in
theorem enter_move {w:World} {lo B:Nat} {s:Nat → Int} {k:Nat} {x:Nat → RecD} {ce:Nat → List Value} {v:Value} {b1 b2 b3 b4 b5:Nat} (h:Ldg w lo B s k k x ce v b1 b2 b3 b4 b5) (hk:k ≤ 1000000) (hlo:lo ≤ w.heap.size)
    {r:RecD} {ao6 ao7 ao8:Option Addr} {cap6 cap7 cap8:Nat} (hx:x k = r) (hc:ce k = [.int .i64 r.kind,.int .i64 r.seq,.string r.name,.int .i64 r.length,.int .i64 r.group,.int .i64 r.row,.slice ao6 r.rows.1 cap6,.slice ao7 r.data.1 cap7,.slice ao8 r.delta.1 cap8]) (hkd:r.kind = 2) (hn:r.name.size ≤ maxLen) (hs:-9223372036854775808 ≤ r.seq ∧ r.seq ≤ 9223372036854775807) (hg:-9223372036854775808 ≤ r.group ∧ r.group ≤ 9223372036854775807) (hw:-9223372036854775808 ≤ r.row ∧ r.row ≤ 9223372036854775807) :
    Calls Tryz.prog 63 #[.pointer (some ⟨B,0,none⟩),.iface 147 (.agg #[.int .i64 r.kind,.int .i64 r.seq,.string r.name,.int .i64 r.length,.int .i64 r.group,.int .i64 r.row,.slice ao6 r.rows.1 cap6,.slice ao7 r.data.1 cap7,.slice ao8 r.delta.1 cap8])] w fun e w' => e = .returned (.tuple #[]) ∧ (∃ v',Ldg w' lo B s (k + 1) (k + 1) x ce v' b1 b2 b3 b4 b5 ∧ EntQ w w' v v' [B,b1,b2,b3,b4,b5]) ∧ Below lo w w':=by
  have HX:Hid (x k = r):=hx;have HC:Hid (ce k = [.int .i64 r.kind,.int .i64 r.seq,.string r.name,.int .i64 r.length,.int .i64 r.group,.int .i64 r.row,.slice ao6 r.rows.1 cap6,.slice ao7 r.data.1 cap7,.slice ao8 r.delta.1 cap8]):=hc;have HKD:Hid (r.kind = 2):=hkd
  have HEV:Hid (entV (x k).kind (ce k) = .iface 147 (.agg #[.int .i64 r.kind,.int .i64 r.seq,.string r.name,.int .i64 r.length,.int .i64 r.group,.int .i64 r.row,.slice ao6 r.rows.1 cap6,.slice ao7 r.data.1 cap7,.slice ao8 r.delta.1 cap8])):=by
    show entV (x k).kind (ce k) = .iface 147 (.agg #[.int .i64 r.kind,.int .i64 r.seq,.string r.name,.int .i64 r.length,.int .i64 r.group,.int .i64 r.row,.slice ao6 r.rows.1 cap6,.slice ao7 r.data.1 cap7,.slice ao8 r.delta.1 cap8])
    unfold entV entT;rw [hx,hc]
    simp [hkd]
  clear hx hc hkd;obtain ⟨i0,hi,hz0,hz1,hz2⟩:=info_parts info_entry;have HL:Hid (Ldg w lo B s k k x ce v b1 b2 b3 b4 b5):=h;obtain ⟨ao,cap,hv⟩:=rowE_slice h.row;subst hv;have x9:w.cell? ⟨B,9,none⟩ = some (.slice ao k cap):=h.box.cell 9;have O0:=h.row;clear h;have TA:=ta11;have TA0:=ta10;have bA:w.grownBy (w.alloc (.cells #[.iface 147 (.agg #[.int .i64 r.kind,.int .i64 r.seq,.string r.name,.int .i64 r.length,.int .i64 r.group,.int .i64 r.row,.slice ao6 r.rows.1 cap6,.slice ao7 r.data.1 cap7,.slice ao8 r.delta.1 cap8])] 108)) none:=World.grownBy_alloc _ _ _
  go_enter Tryz.func63,Tryz.ntmps63
  go_upto_region 7 with (at_builtin;refine wpList_append_own_at _ rfl _ _ 102 rfl lo 108 i0 .nilIface 1 16 Tryz.underlying102 hi hz0 hz1 hz2 rfl (by decide) _ _ _ rfl (O0.alloc _) ⟨w.heap.size,0,none⟩ 1 1 [.iface 147 (.agg #[.int .i64 r.kind,.int .i64 r.seq,.string r.name,.int .i64 r.length,.int .i64 r.group,.int .i64 r.row,.slice ao6 r.rows.1 cap6,.slice ao7 r.data.1 cap7,.slice ao8 r.delta.1 cap8])] rfl rfl (cell_one_new _ _ _) (fun u hu => by simp at hu;subst hu;rfl) (by unfold maxLen;omega) (by omega) (by simp;omega) ?_;intro v' w1 O1 g1 hnil hloc;obtain ⟨ao',cap',rfl⟩:=rowE_slice O1;have L1:=HL.out.grown bA g1;have z9:=L1.cell 9;have z9f:=L1.frozen 9;clear hnil)
  have L2:Ldg ((w1.setCell ⟨B,9,none⟩ (.slice ao' (k + 1) cap')).alloc (.cells #[.int .i64 r.kind,.int .i64 r.seq,.string r.name,.int .i64 r.length,.int .i64 r.group,.int .i64 r.row,.slice ao6 r.rows.1 cap6,.slice ao7 r.data.1 cap7,.slice ao8 r.delta.1 cap8] 147)) lo B s (k + 1) k x ce (.slice ao' (k + 1) cap') b1 b2 b3 b4 b5:=HL.out.laid g1 (by rw [HEV.out];exact O1) hloc
  have X2:Box ((w1.setCell ⟨B,9,none⟩ (.slice ao' (k + 1) cap')).alloc (.cells #[.int .i64 r.kind,.int .i64 r.seq,.string r.name,.int .i64 r.length,.int .i64 r.group,.int .i64 r.row,.slice ao6 r.rows.1 cap6,.slice ao7 r.data.1 cap7,.slice ao8 r.delta.1 cap8] 147)) w1.heap.size #[.int .i64 r.kind,.int .i64 r.seq,.string r.name,.int .i64 r.length,.int .i64 r.group,.int .i64 r.row,.slice ao6 r.rows.1 cap6,.slice ao7 r.data.1 cap7,.slice ao8 r.delta.1 cap8] 147:=by
    have:=box_new (w1.setCell ⟨B,9,none⟩ (.slice ao' (k + 1) cap')) #[.int .i64 r.kind,.int .i64 r.seq,.string r.name,.int .i64 r.length,.int .i64 r.group,.int .i64 r.row,.slice ao6 r.rows.1 cap6,.slice ao7 r.data.1 cap7,.slice ao8 r.delta.1 cap8] 147;rw [show (w1.setCell ⟨B,9,none⟩ (.slice ao' (k + 1) cap')).heap.size = w1.heap.size by simp] at this;exact this
  have B2:Below lo w ((w1.setCell ⟨B,9,none⟩ (.slice ao' (k + 1) cap')).alloc (.cells #[.int .i64 r.kind,.int .i64 r.seq,.string r.name,.int .i64 r.length,.int .i64 r.group,.int .i64 r.row,.slice ao6 r.rows.1 cap6,.slice ao7 r.data.1 cap7,.slice ao8 r.delta.1 cap8] 147)):=by
    have q1:Below lo w w1:=below_grown HL.out g1 hlo;exact (q1.setCell HL.out.low.1 _).alloc (by have:=q1.size;simp;omega) _
  have A2:∀ b,b < w.heap.size → b ≠ B → (Value.slice ao k cap).ownBlock ≠ some b → ((w1.setCell ⟨B,9,none⟩ (.slice ao' (k + 1) cap')).alloc (.cells #[.int .i64 r.kind,.int .i64 r.seq,.string r.name,.int .i64 r.length,.int .i64 r.group,.int .i64 r.row,.slice ao6 r.rows.1 cap6,.slice ao7 r.data.1 cap7,.slice ao8 r.delta.1 cap8] 147)).heap[b]? = w.heap[b]?:=fun b hb hB hv => by
    have sz:w.heap.size + 1 ≤ w1.heap.size:=by have:=g1.size;simp at this;omega
    rw [Below.heap_alloc _ _ b (by simp;omega),heap_setCell_other w1 ⟨B,9,none⟩ b _ hB];exact grown2 bA g1 hb (fun e => hv e.symm)
  have HLO:Hid ((Value.slice ao' (k + 1) cap').ownBlock = (Value.slice ao k cap).ownBlock ∨ ∃ g,w.heap.size ≤ g ∧ (Value.slice ao' (k + 1) cap').ownBlock = some g):=hloc.imp id (fun e => ⟨_,by simp,e⟩);obtain ⟨W2,hW2⟩:∃ y,y = ((w1.setCell ⟨B,9,none⟩ (.slice ao' (k + 1) cap')).alloc (.cells #[.int .i64 r.kind,.int .i64 r.seq,.string r.name,.int .i64 r.length,.int .i64 r.group,.int .i64 r.row,.slice ao6 r.rows.1 cap6,.slice ao7 r.data.1 cap7,.slice ao8 r.delta.1 cap8] 147)):=⟨_,rfl⟩;rw [← hW2] at L2 X2 B2 A2 ⊢;clear hW2 TA TA0 O0 O1 g1 hloc bA x9 z9 z9f L1 hi hz0 hz1 hz2;refine wp_region_still_tail 10 (by kernel_rfl) (by kernel_rfl) ?_;obtain ⟨WB,hWB⟩:∃ y:World,y = { W2 with drawn:=W2.drawn + 1 }:=⟨_,rfl⟩
  have L3:Ldg WB lo B s (k + 1) k x ce (.slice ao' (k + 1) cap') b1 b2 b3 b4 b5:=by rw [hWB];exact L2.drawn _
  have X3:Box WB w1.heap.size #[.int .i64 r.kind,.int .i64 r.seq,.string r.name,.int .i64 r.length,.int .i64 r.group,.int .i64 r.row,.slice ao6 r.rows.1 cap6,.slice ao7 r.data.1 cap7,.slice ao8 r.delta.1 cap8] 147:=by rw [hWB];exact X2
  have B3:Below lo w WB:=by rw [hWB];exact ⟨B2.os,B2.tape,B2.output,B2.size,B2.block⟩
  have HA3:Hid (∀ b,b < w.heap.size → b ≠ B → (Value.slice ao k cap).ownBlock ≠ some b → WB.heap[b]? = w.heap[b]?):=by rw [hWB];exact A2
  rw [← hWB];clear hWB L2 X2 B2 A2;have HL3:Hid (Ldg WB lo B s (k + 1) k x ce (.slice ao' (k + 1) cap') b1 b2 b3 b4 b5):=L3;have HZ3:Hid (w.heap.size ≤ WB.heap.size):=B3.size;have HB3:Hid (Below lo w WB):=B3;have c0:WB.cell? ⟨w1.heap.size,0,none⟩ = some (.int .i64 r.kind):=X3.cell 0;have c1:WB.cell? ⟨w1.heap.size,1,none⟩ = some (.int .i64 r.seq):=X3.cell 1;have c2:WB.cell? ⟨w1.heap.size,2,none⟩ = some (.string r.name):=X3.cell 2;have c3:WB.cell? ⟨w1.heap.size,3,none⟩ = some (.int .i64 r.length):=X3.cell 3;have c4:WB.cell? ⟨w1.heap.size,4,none⟩ = some (.int .i64 r.group):=X3.cell 4;have c5:WB.cell? ⟨w1.heap.size,5,none⟩ = some (.int .i64 r.row):=X3.cell 5;have c6:WB.cell? ⟨w1.heap.size,6,none⟩ = some (.slice ao6 r.rows.1 cap6):=X3.cell 6;have c7:WB.cell? ⟨w1.heap.size,7,none⟩ = some (.slice ao7 r.data.1 cap7):=X3.cell 7;have c8:WB.cell? ⟨w1.heap.size,8,none⟩ = some (.slice ao8 r.delta.1 cap8):=X3.cell 8;have d2:WB.cell? ⟨B,11,none⟩ = some (.map (some b2)):=L3.box.cell 11;obtain ⟨kl,hkl⟩:=keyOf_I hs;have hlook:=L3.m2.look keyI Tryz.underlying99 (zero64 _) hkl;have hcn:=cN_le (fun i => (x i).kind = 2) (fun i => .int .i64 (x i).seq) (.int .i64 r.seq) k;rw [show movF x k (.int .i64 r.seq) = cntF (fun i => (x i).kind = 2) (fun i => .int .i64 (x i).seq) k (.int .i64 r.seq) from rfl,cntF_get] at hlook;obtain ⟨cn,hcn2⟩:∃ cn,cn = cN (fun i => (x i).kind = 2) (fun i => .int .i64 (x i).seq) (.int .i64 r.seq) k:=⟨_,rfl⟩;have HCN:Hid (cn = cN (fun i => (x i).kind = 2) (fun i => .int .i64 (x i).seq) (.int .i64 r.seq) k):=hcn2;rw [← hcn2] at hlook hcn
  have hwr:IntKind.i64.wrap ((cn:Int) + 1) = (cn:Int) + 1:=by rw [IntKind.wrap_i64];omega
  obtain ⟨w',hrun,M,G,S⟩:=L3.m2.put keyI Tryz.underlying99 (by unfold maxLen;omega) hkl (.int .i64 ((cn:Int) + 1));have HM:Hid (MapV w' 2 b2 (k + 1) (putF (movF x k) (.int .i64 r.seq) (.int .i64 ((cn:Int) + 1)))):=M;have HE:Hid (∀ b,b < WB.heap.size → b ∉ [b2] → w'.heap[b]? = WB.heap[b]?):=fun b hb hn => G.block b hb (fun e => by cases e;simp at hn);have HBE:Hid (Below lo w w'):=B3.trans ⟨G.os,G.tape,G.output,G.size,fun b hb => G.block b (by have:=B3.size;omega) (fun e => by cases e;have:=L3.low;omega)⟩;clear M G L3 X3 B3 hkl hcn2
  simp only [List.take_succ_cons,List.take_zero,List.drop_succ_cons,List.drop_zero]
  repeat still_step
  refine wpStill_nil ?_;go_wp2;refine bodyPost_end (v:=.tuple #[]) (by simp [results,Tryz.results63]) rfl ?_
  exact ⟨rfl,⟨_,HL3.out.next (T:=[b2]) HE.out (fun b hb => by simp at hb ⊢;omega) (by rw [show newF x ce (k + 1) = newF x ce k from lastF_skip (show ¬ (x k).kind = 1 by rw [HX.out,HKD.out];decide)];exact (HL3.out.m1.block (HE.out b1 HL3.out.m1.lt (by have:=HL3.out.nd;simp at this ⊢;omega))).mono (Nat.le_succ k))
    (by rw [show movF x (k + 1) = putF (movF x k) (.int .i64 (x k).seq) (.int .i64 ((cN (fun i => (x i).kind = 2) (fun i => .int .i64 (x i).seq) (.int .i64 (x k).seq) k:Int) + 1)) from cntF_put (show (x k).kind = 2 by rw [HX.out,HKD.out]),HX.out,← HCN.out];exact HM.out)
    (by rw [show donF x (k + 1) = donF x k from cntF_skip (show ¬ (x k).kind = 3 by rw [HX.out,HKD.out];decide)];exact (HL3.out.m3.block (HE.out b3 HL3.out.m3.lt (by have:=HL3.out.nd;simp at this ⊢;omega))).mono (Nat.le_succ k))
    (by rw [show endF x (k + 1) = endF x k from cntF_skip (show ¬ (x k).kind = 3 by rw [HX.out,HKD.out];decide)];exact (HL3.out.m4.block (HE.out b4 HL3.out.m4.lt (by have:=HL3.out.nd;simp at this ⊢;omega))).mono (Nat.le_succ k))
    (by rw [show shaF x (k + 1) = shaF x k from lastF_skip (show ¬ (x k).kind = 4 by rw [HX.out,HKD.out];decide)];exact (HL3.out.m5.block (HE.out b5 HL3.out.m5.lt (by have:=HL3.out.nd;simp at this ⊢;omega))).mono (Nat.le_succ k)),⟨HLO.out,fun b hb hT hv => (HE.out b (Nat.lt_of_lt_of_le hb HZ3.out) (fun q => hT (by simp at q ⊢;omega))).trans (HA3.out b hb (fun e => hT (by rw [e];simp)) hv)⟩⟩,HBE.out⟩
set_option maxHeartbeats 8000000 in
set_option maxRecDepth 20000 in
theorem enter_share {w:World} {lo B:Nat} {s:Nat → Int} {k:Nat} {x:Nat → RecD} {ce:Nat → List Value} {v:Value} {b1 b2 b3 b4 b5:Nat} (h:Ldg w lo B s k k x ce v b1 b2 b3 b4 b5) (hk:k ≤ 1000000) (hlo:lo ≤ w.heap.size)
    {r:RecD} {ao6 ao7 ao8:Option Addr} {cap6 cap7 cap8:Nat} (hx:x k = r) (hc:ce k = [.int .i64 r.kind,.int .i64 r.seq,.string r.name,.int .i64 r.length,.int .i64 r.group,.int .i64 r.row,.slice ao6 r.rows.1 cap6,.slice ao7 r.data.1 cap7,.slice ao8 r.delta.1 cap8]) (hkd:r.kind = 4) (hn:r.name.size ≤ maxLen) (hs:-9223372036854775808 ≤ r.seq ∧ r.seq ≤ 9223372036854775807) (hg:-9223372036854775808 ≤ r.group ∧ r.group ≤ 9223372036854775807) (hw:-9223372036854775808 ≤ r.row ∧ r.row ≤ 9223372036854775807) :
    Calls Tryz.prog 63 #[.pointer (some ⟨B,0,none⟩),.iface 151 (.agg #[.int .i64 r.kind,.int .i64 r.seq,.string r.name,.int .i64 r.length,.int .i64 r.group,.int .i64 r.row,.slice ao6 r.rows.1 cap6,.slice ao7 r.data.1 cap7,.slice ao8 r.delta.1 cap8])] w fun e w' => e = .returned (.tuple #[]) ∧ (∃ v',Ldg w' lo B s (k + 1) (k + 1) x ce v' b1 b2 b3 b4 b5 ∧ EntQ w w' v v' [B,b1,b2,b3,b4,b5]) ∧ Below lo w w':=by
  have HX:Hid (x k = r):=hx;have HC:Hid (ce k = [.int .i64 r.kind,.int .i64 r.seq,.string r.name,.int .i64 r.length,.int .i64 r.group,.int .i64 r.row,.slice ao6 r.rows.1 cap6,.slice ao7 r.data.1 cap7,.slice ao8 r.delta.1 cap8]):=hc;have HKD:Hid (r.kind = 4):=hkd
  have HEV:Hid (entV (x k).kind (ce k) = .iface 151 (.agg #[.int .i64 r.kind,.int .i64 r.seq,.string r.name,.int .i64 r.length,.int .i64 r.group,.int .i64 r.row,.slice ao6 r.rows.1 cap6,.slice ao7 r.data.1 cap7,.slice ao8 r.delta.1 cap8])):=by
    show entV (x k).kind (ce k) = .iface 151 (.agg #[.int .i64 r.kind,.int .i64 r.seq,.string r.name,.int .i64 r.length,.int .i64 r.group,.int .i64 r.row,.slice ao6 r.rows.1 cap6,.slice ao7 r.data.1 cap7,.slice ao8 r.delta.1 cap8])
    unfold entV entT;rw [hx,hc]
    simp [hkd]
  clear hx hc hkd;obtain ⟨i0,hi,hz0,hz1,hz2⟩:=info_parts info_entry;have HL:Hid (Ldg w lo B s k k x ce v b1 b2 b3 b4 b5):=h;obtain ⟨ao,cap,hv⟩:=rowE_slice h.row;subst hv;have x9:w.cell? ⟨B,9,none⟩ = some (.slice ao k cap):=h.box.cell 9;have O0:=h.row;clear h;have TA:=ta33;have TA0:=ta30;have TA1:=ta31;have TA2:=ta32;have bA:w.grownBy (w.alloc (.cells #[.iface 151 (.agg #[.int .i64 r.kind,.int .i64 r.seq,.string r.name,.int .i64 r.length,.int .i64 r.group,.int .i64 r.row,.slice ao6 r.rows.1 cap6,.slice ao7 r.data.1 cap7,.slice ao8 r.delta.1 cap8])] 108)) none:=World.grownBy_alloc _ _ _
  go_enter Tryz.func63,Tryz.ntmps63
  go_upto_region 14 with (at_builtin;refine wpList_append_own_at _ rfl _ _ 102 rfl lo 108 i0 .nilIface 1 16 Tryz.underlying102 hi hz0 hz1 hz2 rfl (by decide) _ _ _ rfl (O0.alloc _) ⟨w.heap.size,0,none⟩ 1 1 [.iface 151 (.agg #[.int .i64 r.kind,.int .i64 r.seq,.string r.name,.int .i64 r.length,.int .i64 r.group,.int .i64 r.row,.slice ao6 r.rows.1 cap6,.slice ao7 r.data.1 cap7,.slice ao8 r.delta.1 cap8])] rfl rfl (cell_one_new _ _ _) (fun u hu => by simp at hu;subst hu;rfl) (by unfold maxLen;omega) (by omega) (by simp;omega) ?_;intro v' w1 O1 g1 hnil hloc;obtain ⟨ao',cap',rfl⟩:=rowE_slice O1;have L1:=HL.out.grown bA g1;have z9:=L1.cell 9;have z9f:=L1.frozen 9;clear hnil)
  have L2:Ldg ((w1.setCell ⟨B,9,none⟩ (.slice ao' (k + 1) cap')).alloc (.cells #[.int .i64 r.kind,.int .i64 r.seq,.string r.name,.int .i64 r.length,.int .i64 r.group,.int .i64 r.row,.slice ao6 r.rows.1 cap6,.slice ao7 r.data.1 cap7,.slice ao8 r.delta.1 cap8] 151)) lo B s (k + 1) k x ce (.slice ao' (k + 1) cap') b1 b2 b3 b4 b5:=HL.out.laid g1 (by rw [HEV.out];exact O1) hloc
  have X2:Box ((w1.setCell ⟨B,9,none⟩ (.slice ao' (k + 1) cap')).alloc (.cells #[.int .i64 r.kind,.int .i64 r.seq,.string r.name,.int .i64 r.length,.int .i64 r.group,.int .i64 r.row,.slice ao6 r.rows.1 cap6,.slice ao7 r.data.1 cap7,.slice ao8 r.delta.1 cap8] 151)) w1.heap.size #[.int .i64 r.kind,.int .i64 r.seq,.string r.name,.int .i64 r.length,.int .i64 r.group,.int .i64 r.row,.slice ao6 r.rows.1 cap6,.slice ao7 r.data.1 cap7,.slice ao8 r.delta.1 cap8] 151:=by
    have:=box_new (w1.setCell ⟨B,9,none⟩ (.slice ao' (k + 1) cap')) #[.int .i64 r.kind,.int .i64 r.seq,.string r.name,.int .i64 r.length,.int .i64 r.group,.int .i64 r.row,.slice ao6 r.rows.1 cap6,.slice ao7 r.data.1 cap7,.slice ao8 r.delta.1 cap8] 151;rw [show (w1.setCell ⟨B,9,none⟩ (.slice ao' (k + 1) cap')).heap.size = w1.heap.size by simp] at this;exact this
  have B2:Below lo w ((w1.setCell ⟨B,9,none⟩ (.slice ao' (k + 1) cap')).alloc (.cells #[.int .i64 r.kind,.int .i64 r.seq,.string r.name,.int .i64 r.length,.int .i64 r.group,.int .i64 r.row,.slice ao6 r.rows.1 cap6,.slice ao7 r.data.1 cap7,.slice ao8 r.delta.1 cap8] 151)):=by
    have q1:Below lo w w1:=below_grown HL.out g1 hlo;exact (q1.setCell HL.out.low.1 _).alloc (by have:=q1.size;simp;omega) _
  have A2:∀ b,b < w.heap.size → b ≠ B → (Value.slice ao k cap).ownBlock ≠ some b → ((w1.setCell ⟨B,9,none⟩ (.slice ao' (k + 1) cap')).alloc (.cells #[.int .i64 r.kind,.int .i64 r.seq,.string r.name,.int .i64 r.length,.int .i64 r.group,.int .i64 r.row,.slice ao6 r.rows.1 cap6,.slice ao7 r.data.1 cap7,.slice ao8 r.delta.1 cap8] 151)).heap[b]? = w.heap[b]?:=fun b hb hB hv => by
    have sz:w.heap.size + 1 ≤ w1.heap.size:=by have:=g1.size;simp at this;omega
    rw [Below.heap_alloc _ _ b (by simp;omega),heap_setCell_other w1 ⟨B,9,none⟩ b _ hB];exact grown2 bA g1 hb (fun e => hv e.symm)
  have HLO:Hid ((Value.slice ao' (k + 1) cap').ownBlock = (Value.slice ao k cap).ownBlock ∨ ∃ g,w.heap.size ≤ g ∧ (Value.slice ao' (k + 1) cap').ownBlock = some g):=hloc.imp id (fun e => ⟨_,by simp,e⟩);obtain ⟨W2,hW2⟩:∃ y,y = ((w1.setCell ⟨B,9,none⟩ (.slice ao' (k + 1) cap')).alloc (.cells #[.int .i64 r.kind,.int .i64 r.seq,.string r.name,.int .i64 r.length,.int .i64 r.group,.int .i64 r.row,.slice ao6 r.rows.1 cap6,.slice ao7 r.data.1 cap7,.slice ao8 r.delta.1 cap8] 151)):=⟨_,rfl⟩;rw [← hW2] at L2 X2 B2 A2 ⊢;clear hW2 TA TA0 TA1 TA2 O0 O1 g1 hloc bA x9 z9 z9f L1 hi hz0 hz1 hz2;refine wp_region_still_tail 17 (by kernel_rfl) (by kernel_rfl) ?_;obtain ⟨WB,hWB⟩:∃ y:World,y = { W2 with drawn:=W2.drawn + 1 }:=⟨_,rfl⟩
  have L3:Ldg WB lo B s (k + 1) k x ce (.slice ao' (k + 1) cap') b1 b2 b3 b4 b5:=by rw [hWB];exact L2.drawn _
  have X3:Box WB w1.heap.size #[.int .i64 r.kind,.int .i64 r.seq,.string r.name,.int .i64 r.length,.int .i64 r.group,.int .i64 r.row,.slice ao6 r.rows.1 cap6,.slice ao7 r.data.1 cap7,.slice ao8 r.delta.1 cap8] 151:=by rw [hWB];exact X2
  have B3:Below lo w WB:=by rw [hWB];exact ⟨B2.os,B2.tape,B2.output,B2.size,B2.block⟩
  have HA3:Hid (∀ b,b < w.heap.size → b ≠ B → (Value.slice ao k cap).ownBlock ≠ some b → WB.heap[b]? = w.heap[b]?):=by rw [hWB];exact A2
  rw [← hWB];clear hWB L2 X2 B2 A2;have HL3:Hid (Ldg WB lo B s (k + 1) k x ce (.slice ao' (k + 1) cap') b1 b2 b3 b4 b5):=L3;have HZ3:Hid (w.heap.size ≤ WB.heap.size):=B3.size;have HB3:Hid (Below lo w WB):=B3;have c0:WB.cell? ⟨w1.heap.size,0,none⟩ = some (.int .i64 r.kind):=X3.cell 0;have c1:WB.cell? ⟨w1.heap.size,1,none⟩ = some (.int .i64 r.seq):=X3.cell 1;have c2:WB.cell? ⟨w1.heap.size,2,none⟩ = some (.string r.name):=X3.cell 2;have c3:WB.cell? ⟨w1.heap.size,3,none⟩ = some (.int .i64 r.length):=X3.cell 3;have c4:WB.cell? ⟨w1.heap.size,4,none⟩ = some (.int .i64 r.group):=X3.cell 4;have c5:WB.cell? ⟨w1.heap.size,5,none⟩ = some (.int .i64 r.row):=X3.cell 5;have c6:WB.cell? ⟨w1.heap.size,6,none⟩ = some (.slice ao6 r.rows.1 cap6):=X3.cell 6;have c7:WB.cell? ⟨w1.heap.size,7,none⟩ = some (.slice ao7 r.data.1 cap7):=X3.cell 7;have c8:WB.cell? ⟨w1.heap.size,8,none⟩ = some (.slice ao8 r.delta.1 cap8):=X3.cell 8;have d5:WB.cell? ⟨B,14,none⟩ = some (.map (some b5)):=L3.box.cell 14;obtain ⟨kl,hkl⟩:=keyOf_place hg hw;obtain ⟨w',hrun,M,G,S⟩:=L3.m5.put keyPlace Tryz.underlying101 (by unfold maxLen;omega) hkl (.int .i64 r.seq);have HM:Hid (MapV w' 153 b5 (k + 1) (putF (shaF x k) (.agg #[.int .i64 r.group,.int .i64 r.row]) (.int .i64 r.seq))):=M;have HE:Hid (∀ b,b < WB.heap.size → b ∉ [b5] → w'.heap[b]? = WB.heap[b]?):=fun b hb hn => G.block b hb (fun e => by cases e;simp at hn);have HBE:Hid (Below lo w w'):=B3.trans ⟨G.os,G.tape,G.output,G.size,fun b hb => G.block b (by have:=B3.size;omega) (fun e => by cases e;have:=L3.low;omega)⟩;clear M G L3 X3 B3 hkl
  simp only [List.take_succ_cons,List.take_zero,List.drop_succ_cons,List.drop_zero]
  repeat still_step
  refine wpStill_nil ?_;go_wp2;refine bodyPost_end (v:=.tuple #[]) (by simp [results,Tryz.results63]) rfl ?_
  exact ⟨rfl,⟨_,HL3.out.next (T:=[b5]) HE.out (fun b hb => by simp at hb ⊢;omega) (by rw [show newF x ce (k + 1) = newF x ce k from lastF_skip (show ¬ (x k).kind = 1 by rw [HX.out,HKD.out];decide)];exact (HL3.out.m1.block (HE.out b1 HL3.out.m1.lt (by have:=HL3.out.nd;simp at this ⊢;omega))).mono (Nat.le_succ k))
    (by rw [show movF x (k + 1) = movF x k from cntF_skip (show ¬ (x k).kind = 2 by rw [HX.out,HKD.out];decide)];exact (HL3.out.m2.block (HE.out b2 HL3.out.m2.lt (by have:=HL3.out.nd;simp at this ⊢;omega))).mono (Nat.le_succ k))
    (by rw [show donF x (k + 1) = donF x k from cntF_skip (show ¬ (x k).kind = 3 by rw [HX.out,HKD.out];decide)];exact (HL3.out.m3.block (HE.out b3 HL3.out.m3.lt (by have:=HL3.out.nd;simp at this ⊢;omega))).mono (Nat.le_succ k))
    (by rw [show endF x (k + 1) = endF x k from cntF_skip (show ¬ (x k).kind = 3 by rw [HX.out,HKD.out];decide)];exact (HL3.out.m4.block (HE.out b4 HL3.out.m4.lt (by have:=HL3.out.nd;simp at this ⊢;omega))).mono (Nat.le_succ k))
    (by rw [show shaF x (k + 1) = putF (shaF x k) (.agg #[.int .i64 (x k).group,.int .i64 (x k).row]) (.int .i64 (x k).seq) from lastF_put (show (x k).kind = 4 by rw [HX.out,HKD.out]),HX.out];exact HM.out),⟨HLO.out,fun b hb hT hv => (HE.out b (Nat.lt_of_lt_of_le hb HZ3.out) (fun q => hT (by simp at q ⊢;omega))).trans (HA3.out b hb (fun e => hT (by rw [e];simp)) hv)⟩⟩,HBE.out⟩
set_option maxHeartbeats 8000000 in
set_option maxRecDepth 20000 in
theorem enter_done {w:World} {lo B:Nat} {s:Nat → Int} {k:Nat} {x:Nat → RecD} {ce:Nat → List Value} {v:Value} {b1 b2 b3 b4 b5:Nat} (h:Ldg w lo B s k k x ce v b1 b2 b3 b4 b5) (hk:k ≤ 1000000) (hlo:lo ≤ w.heap.size)
    {r:RecD} {ao6 ao7 ao8:Option Addr} {cap6 cap7 cap8:Nat} (hx:x k = r) (hc:ce k = [.int .i64 r.kind,.int .i64 r.seq,.string r.name,.int .i64 r.length,.int .i64 r.group,.int .i64 r.row,.slice ao6 r.rows.1 cap6,.slice ao7 r.data.1 cap7,.slice ao8 r.delta.1 cap8]) (hkd:r.kind = 3) (hn:r.name.size ≤ maxLen) (hs:-9223372036854775808 ≤ r.seq ∧ r.seq ≤ 9223372036854775807) (hg:-9223372036854775808 ≤ r.group ∧ r.group ≤ 9223372036854775807) (hw:-9223372036854775808 ≤ r.row ∧ r.row ≤ 9223372036854775807) :
    Calls Tryz.prog 63 #[.pointer (some ⟨B,0,none⟩),.iface 148 (.agg #[.int .i64 r.kind,.int .i64 r.seq,.string r.name,.int .i64 r.length,.int .i64 r.group,.int .i64 r.row,.slice ao6 r.rows.1 cap6,.slice ao7 r.data.1 cap7,.slice ao8 r.delta.1 cap8])] w fun e w' => e = .returned (.tuple #[]) ∧ (∃ v',Ldg w' lo B s (k + 1) (k + 1) x ce v' b1 b2 b3 b4 b5 ∧ EntQ w w' v v' [B,b1,b2,b3,b4,b5]) ∧ Below lo w w':=by
  have HX:Hid (x k = r):=hx;have HC:Hid (ce k = [.int .i64 r.kind,.int .i64 r.seq,.string r.name,.int .i64 r.length,.int .i64 r.group,.int .i64 r.row,.slice ao6 r.rows.1 cap6,.slice ao7 r.data.1 cap7,.slice ao8 r.delta.1 cap8]):=hc;have HKD:Hid (r.kind = 3):=hkd
  have HEV:Hid (entV (x k).kind (ce k) = .iface 148 (.agg #[.int .i64 r.kind,.int .i64 r.seq,.string r.name,.int .i64 r.length,.int .i64 r.group,.int .i64 r.row,.slice ao6 r.rows.1 cap6,.slice ao7 r.data.1 cap7,.slice ao8 r.delta.1 cap8])):=by
    show entV (x k).kind (ce k) = .iface 148 (.agg #[.int .i64 r.kind,.int .i64 r.seq,.string r.name,.int .i64 r.length,.int .i64 r.group,.int .i64 r.row,.slice ao6 r.rows.1 cap6,.slice ao7 r.data.1 cap7,.slice ao8 r.delta.1 cap8])
    unfold entV entT;rw [hx,hc]
    simp [hkd]
  clear hx hc hkd;obtain ⟨i0,hi,hz0,hz1,hz2⟩:=info_parts info_entry;have HL:Hid (Ldg w lo B s k k x ce v b1 b2 b3 b4 b5):=h;obtain ⟨ao,cap,hv⟩:=rowE_slice h.row;subst hv;have x9:w.cell? ⟨B,9,none⟩ = some (.slice ao k cap):=h.box.cell 9;have O0:=h.row;clear h;have TA:=ta22;have TA0:=ta20;have TA1:=ta21;have bA:w.grownBy (w.alloc (.cells #[.iface 148 (.agg #[.int .i64 r.kind,.int .i64 r.seq,.string r.name,.int .i64 r.length,.int .i64 r.group,.int .i64 r.row,.slice ao6 r.rows.1 cap6,.slice ao7 r.data.1 cap7,.slice ao8 r.delta.1 cap8])] 108)) none:=World.grownBy_alloc _ _ _
  go_enter Tryz.func63,Tryz.ntmps63
  go_upto_region 10 with (at_builtin;refine wpList_append_own_at _ rfl _ _ 102 rfl lo 108 i0 .nilIface 1 16 Tryz.underlying102 hi hz0 hz1 hz2 rfl (by decide) _ _ _ rfl (O0.alloc _) ⟨w.heap.size,0,none⟩ 1 1 [.iface 148 (.agg #[.int .i64 r.kind,.int .i64 r.seq,.string r.name,.int .i64 r.length,.int .i64 r.group,.int .i64 r.row,.slice ao6 r.rows.1 cap6,.slice ao7 r.data.1 cap7,.slice ao8 r.delta.1 cap8])] rfl rfl (cell_one_new _ _ _) (fun u hu => by simp at hu;subst hu;rfl) (by unfold maxLen;omega) (by omega) (by simp;omega) ?_;intro v' w1 O1 g1 hnil hloc;obtain ⟨ao',cap',rfl⟩:=rowE_slice O1;have L1:=HL.out.grown bA g1;have z9:=L1.cell 9;have z9f:=L1.frozen 9;clear hnil)
  have L2:Ldg ((w1.setCell ⟨B,9,none⟩ (.slice ao' (k + 1) cap')).alloc (.cells #[.int .i64 r.kind,.int .i64 r.seq,.string r.name,.int .i64 r.length,.int .i64 r.group,.int .i64 r.row,.slice ao6 r.rows.1 cap6,.slice ao7 r.data.1 cap7,.slice ao8 r.delta.1 cap8] 148)) lo B s (k + 1) k x ce (.slice ao' (k + 1) cap') b1 b2 b3 b4 b5:=HL.out.laid g1 (by rw [HEV.out];exact O1) hloc
  have X2:Box ((w1.setCell ⟨B,9,none⟩ (.slice ao' (k + 1) cap')).alloc (.cells #[.int .i64 r.kind,.int .i64 r.seq,.string r.name,.int .i64 r.length,.int .i64 r.group,.int .i64 r.row,.slice ao6 r.rows.1 cap6,.slice ao7 r.data.1 cap7,.slice ao8 r.delta.1 cap8] 148)) w1.heap.size #[.int .i64 r.kind,.int .i64 r.seq,.string r.name,.int .i64 r.length,.int .i64 r.group,.int .i64 r.row,.slice ao6 r.rows.1 cap6,.slice ao7 r.data.1 cap7,.slice ao8 r.delta.1 cap8] 148:=by
    have:=box_new (w1.setCell ⟨B,9,none⟩ (.slice ao' (k + 1) cap')) #[.int .i64 r.kind,.int .i64 r.seq,.string r.name,.int .i64 r.length,.int .i64 r.group,.int .i64 r.row,.slice ao6 r.rows.1 cap6,.slice ao7 r.data.1 cap7,.slice ao8 r.delta.1 cap8] 148;rw [show (w1.setCell ⟨B,9,none⟩ (.slice ao' (k + 1) cap')).heap.size = w1.heap.size by simp] at this;exact this
  have B2:Below lo w ((w1.setCell ⟨B,9,none⟩ (.slice ao' (k + 1) cap')).alloc (.cells #[.int .i64 r.kind,.int .i64 r.seq,.string r.name,.int .i64 r.length,.int .i64 r.group,.int .i64 r.row,.slice ao6 r.rows.1 cap6,.slice ao7 r.data.1 cap7,.slice ao8 r.delta.1 cap8] 148)):=by
    have q1:Below lo w w1:=below_grown HL.out g1 hlo;exact (q1.setCell HL.out.low.1 _).alloc (by have:=q1.size;simp;omega) _
  have A2:∀ b,b < w.heap.size → b ≠ B → (Value.slice ao k cap).ownBlock ≠ some b → ((w1.setCell ⟨B,9,none⟩ (.slice ao' (k + 1) cap')).alloc (.cells #[.int .i64 r.kind,.int .i64 r.seq,.string r.name,.int .i64 r.length,.int .i64 r.group,.int .i64 r.row,.slice ao6 r.rows.1 cap6,.slice ao7 r.data.1 cap7,.slice ao8 r.delta.1 cap8] 148)).heap[b]? = w.heap[b]?:=fun b hb hB hv => by
    have sz:w.heap.size + 1 ≤ w1.heap.size:=by have:=g1.size;simp at this;omega
    rw [Below.heap_alloc _ _ b (by simp;omega),heap_setCell_other w1 ⟨B,9,none⟩ b _ hB];exact grown2 bA g1 hb (fun e => hv e.symm)
  have HLO:Hid ((Value.slice ao' (k + 1) cap').ownBlock = (Value.slice ao k cap).ownBlock ∨ ∃ g,w.heap.size ≤ g ∧ (Value.slice ao' (k + 1) cap').ownBlock = some g):=hloc.imp id (fun e => ⟨_,by simp,e⟩);obtain ⟨W2,hW2⟩:∃ y,y = ((w1.setCell ⟨B,9,none⟩ (.slice ao' (k + 1) cap')).alloc (.cells #[.int .i64 r.kind,.int .i64 r.seq,.string r.name,.int .i64 r.length,.int .i64 r.group,.int .i64 r.row,.slice ao6 r.rows.1 cap6,.slice ao7 r.data.1 cap7,.slice ao8 r.delta.1 cap8] 148)):=⟨_,rfl⟩;rw [← hW2] at L2 X2 B2 A2 ⊢;clear hW2 TA TA0 TA1 O0 O1 g1 hloc bA x9 z9 z9f L1 hi hz0 hz1 hz2;have L3:Ldg W2.drew lo B s (k + 1) k x ce (.slice ao' (k + 1) cap') b1 b2 b3 b4 b5:=L2.drawn _;have X3:Box W2.drew w1.heap.size #[.int .i64 r.kind,.int .i64 r.seq,.string r.name,.int .i64 r.length,.int .i64 r.group,.int .i64 r.row,.slice ao6 r.rows.1 cap6,.slice ao7 r.data.1 cap7,.slice ao8 r.delta.1 cap8] 148:=X2;have B3:Below lo w W2.drew:=⟨B2.os,B2.tape,B2.output,B2.size,B2.block⟩;have HA3:Hid (∀ b,b < w.heap.size → b ≠ B → (Value.slice ao k cap).ownBlock ≠ some b → W2.drew.heap[b]? = w.heap[b]?):=A2;obtain ⟨kl,hkl⟩:=keyOf_step hs hg;have hcn:=cN_le (fun i => (x i).kind = 3) (fun i => .agg #[.int .i64 (x i).seq,.int .i64 (x i).group]) (.agg #[.int .i64 r.seq,.int .i64 r.group]) k;have hget:(donF x k (.agg #[.int .i64 r.seq,.int .i64 r.group])).getD (.int .i64 0) = .int .i64 (cN (fun i => (x i).kind = 3) (fun i => .agg #[.int .i64 (x i).seq,.int .i64 (x i).group]) (.agg #[.int .i64 r.seq,.int .i64 r.group]) k:Int):=cntF_get _ _ _ _;obtain ⟨cn,hcn2⟩:∃ cn,cn = cN (fun i => (x i).kind = 3) (fun i => .agg #[.int .i64 (x i).seq,.int .i64 (x i).group]) (.agg #[.int .i64 r.seq,.int .i64 r.group]) k:=⟨_,rfl⟩;have HCN:Hid (cn = cN (fun i => (x i).kind = 3) (fun i => .agg #[.int .i64 (x i).seq,.int .i64 (x i).group]) (.agg #[.int .i64 r.seq,.int .i64 r.group]) k):=hcn2;rw [← hcn2] at hcn hget;have hlook:=L3.m3.look keyStep Tryz.underlying100 (zero64 _) hkl;obtain ⟨st,w5,hent,z5,G5,hlk5,hst⟩:=L3.m3.entry lawStep Tryz.underlying100 (by unfold maxLen;omega) zero64 hkl;rw [hget] at hlook hent hlk5
  have hwr:IntKind.i64.wrap ((cn:Int) + 1) = (cn:Int) + 1:=by rw [IntKind.wrap_i64];omega
  obtain ⟨w6,hrun6,M6,G6,S6⟩:=hst (.int .i64 ((cn:Int) + 1));have S3:(fun w' => w'.cell? ⟨B,12,none⟩ = some (.map (some b3)) ∧ w'.cell? ⟨w1.heap.size,1,none⟩ = some (.int .i64 r.seq) ∧ w'.cell? ⟨w1.heap.size,4,none⟩ = some (.int .i64 r.group) ∧ (Instr.lookup 100 (.map (some b3)) (.agg #[.int .i64 r.seq,.int .i64 r.group]) false).run Tryz.prog w' = .ok (.int .i64 (cn:Int)) w') W2.drew:=⟨L3.box.cell 12,X3.cell 1,X3.cell 4,hlook⟩;have nb:∀ b,b < W2.drew.heap.size → b ≠ b3 → w5.heap[b]? = W2.drew.heap[b]?:=fun b hb hn => G5.block b hb (fun e => hn (by cases e;rfl))
  have nB:B ≠ b3:=fun e => by have:=L3.nd;simp at this;omega
  have nX:w1.heap.size ≠ b3:=fun e => by
    obtain ⟨D,⟨es,clock,q1,_⟩,_⟩:=L3.m3;have:=X3;unfold Box at this;rw [e,q1] at this
    cases this
  have S5:(fun w' => w'.cell? ⟨B,12,none⟩ = some (.map (some b3)) ∧ w'.cell? ⟨w1.heap.size,1,none⟩ = some (.int .i64 r.seq) ∧ w'.cell? ⟨w1.heap.size,4,none⟩ = some (.int .i64 r.group) ∧ (Instr.lookup 100 (.map (some b3)) (.agg #[.int .i64 r.seq,.int .i64 r.group]) false).run Tryz.prog w' = .ok (.int .i64 (cn:Int)) w') w5:=⟨(World.cell?_of_block (w:=W2.drew) (nb B L3.box.lt nB)).trans (L3.box.cell 12),(World.cell?_of_block (w:=W2.drew) (nb _ X3.lt nX)).trans (X3.cell 1),(World.cell?_of_block (w:=W2.drew) (nb _ X3.lt nX)).trans (X3.cell 4),hlk5⟩;have HM3:Hid (MapV w6 150 b3 (k + 1) (putF (donF x k) (.agg #[.int .i64 r.seq,.int .i64 r.group]) (.int .i64 ((cn:Int) + 1)))):=M6;have HE6:Hid (∀ b,b < W2.drew.heap.size → b ≠ b3 → w6.heap[b]? = W2.drew.heap[b]?):=fun b hb hn => G6.block b hb (fun e => hn (by cases e;rfl));have HB6:Hid (Below lo w w6):=B3.trans ⟨G6.os,G6.tape,G6.output,G6.size,fun b hb => G6.block b (by have:=B3.size;omega) (fun e => by cases e;have:=L3.low;omega)⟩;have HX6:Hid (Box w6 w1.heap.size #[.int .i64 r.kind,.int .i64 r.seq,.string r.name,.int .i64 r.length,.int .i64 r.group,.int .i64 r.row,.slice ao6 r.rows.1 cap6,.slice ao7 r.data.1 cap7,.slice ao8 r.delta.1 cap8] 148):=(HE6.out _ X3.lt nX).trans X3;have HY6:Hid (w6.cell? ⟨B,13,none⟩ = some (.map (some b4))):=(World.cell?_of_block (w:=W2.drew) (HE6.out B L3.box.lt nB)).trans (L3.box.cell 13);have HM4:Hid (MapV w6 2 b4 k (endF x k)):=L3.m4.block (HE6.out b4 L3.m4.lt (fun e => by have:=L3.nd;simp at this;omega));have HL3:Hid (Ldg W2.drew lo B s (k + 1) k x ce (.slice ao' (k + 1) cap') b1 b2 b3 b4 b5):=L3;have HZ3:Hid (w.heap.size ≤ W2.drew.heap.size):=B3.size;clear M6 G6 G5 hst X3 B3 L3 hkl hcn2 hget nb nB nX L2 X2 B2 A2 hlook hlk5;refine wp_region_M 17 (fun w' => w'.cell? ⟨B,12,none⟩ = some (.map (some b3)) ∧ w'.cell? ⟨w1.heap.size,1,none⟩ = some (.int .i64 r.seq) ∧ w'.cell? ⟨w1.heap.size,4,none⟩ = some (.int .i64 r.group) ∧ (Instr.lookup 100 (.map (some b3)) (.agg #[.int .i64 r.seq,.int .i64 r.group]) false).run Tryz.prog w' = .ok (.int .i64 (cn:Int)) w') mixedL S3 (fun hHeld => ?_);refine wpAnyM_pure (i:=0) (oi:=_) (v:=?_) rfl (by kernel_rfl) (fun _ _ _ h => h) (Or.inl ⟨by kernel_rfl,?_⟩) (by assumption) ?_
  rotate_left
  · intro w' hSw;go_simp;try with_reducible rfl
  try simp only [Act.put,SL]
  refine wpAnyM_pure (i:=1) (oi:=_) (v:=?_) rfl (by kernel_rfl) (fun _ _ _ h => h) (Or.inl ⟨by kernel_rfl,?_⟩) (by assumption) ?_
  rotate_left
  · intro w' hSw;go_simp;try with_reducible rfl
  try simp only [Act.put,SL]
  refine wpAnyM_pure (i:=2) (oi:=_) (v:=?_) rfl (by kernel_rfl) (fun _ _ _ h => h) (Or.inl ⟨by kernel_rfl,?_⟩) (by assumption) ?_
  rotate_left
  · intro w' hSw;go_simp;try with_reducible rfl
  try simp only [Act.put,SL]
  refine wpAnyM_take (i:=3) (oi:=_) (v:=?_) 16 rfl (by kernel_rfl) (fun _ _ _ h => h) (Or.inl ⟨by kernel_rfl,?_⟩) (by assumption) ?_
  rotate_left
  · intro w' hSw
    try dsimp only at hSw
    obtain ⟨y1,y2,y3,y4⟩:=hSw;go_simp
    try with_reducible rfl
  try simp only [Act.put,SL]
  refine wpAnyM_pure (i:=4) (oi:=_) (v:=?_) rfl (by kernel_rfl) (fun _ _ _ h => h) (Or.inl ⟨by kernel_rfl,?_⟩) (by assumption) ?_
  rotate_left
  · intro w' hSw;go_simp;try with_reducible rfl
  try simp only [Act.put,SL]
  refine wpAnyM_pure (i:=5) (oi:=_) (v:=?_) rfl (by kernel_rfl) (fun _ _ _ h => h) (Or.inl ⟨by kernel_rfl,?_⟩) (by assumption) ?_
  rotate_left
  · intro w' hSw;go_simp;try with_reducible rfl
  try simp only [Act.put,SL]
  refine wpAnyM_pure (i:=6) (oi:=_) (v:=?_) rfl (by kernel_rfl) (fun _ _ _ h => h) (Or.inl ⟨by kernel_rfl,?_⟩) (by assumption) ?_
  rotate_left
  · intro w' hSw;go_simp;try with_reducible rfl
  try simp only [Act.put,SL]
  refine wpAnyM_take (i:=7) (oi:=_) (v:=?_) 16 rfl (by kernel_rfl) (fun _ _ _ h => h) (Or.inl ⟨by kernel_rfl,?_⟩) (by assumption) ?_
  rotate_left
  · intro w' hSw
    try dsimp only at hSw
    obtain ⟨y1,y2,y3,y4⟩:=hSw;go_simp
    try with_reducible rfl
  try simp only [Act.put,SL]
  refine wpAnyM_pure (i:=8) (oi:=_) (v:=?_) rfl (by kernel_rfl) (fun _ _ _ h => h) (Or.inl ⟨by kernel_rfl,?_⟩) (by assumption) ?_
  rotate_left
  · intro w' hSw;go_simp;try with_reducible rfl
  try simp only [Act.put,SL]
  refine wpAnyM_pure (i:=9) (oi:=_) (v:=?_) rfl (by kernel_rfl) (fun _ _ _ h => h) (Or.inl ⟨by kernel_rfl,?_⟩) (by assumption) ?_
  rotate_left
  · intro w' hSw;go_simp;try with_reducible rfl
  try simp only [Act.put,SL]
  refine wpAnyM_pure (i:=10) (oi:=_) (v:=?_) rfl (by kernel_rfl) (fun _ _ _ h => h) (Or.inl ⟨by kernel_rfl,?_⟩) (by assumption) ?_
  rotate_left
  · intro w' hSw;go_simp;try with_reducible rfl
  try simp only [Act.put,SL]
  refine wpAnyM_take (i:=11) (oi:=_) (v:=?_) 16 rfl (by kernel_rfl) (fun _ _ _ h => h) (Or.inl ⟨by kernel_rfl,?_⟩) (by assumption) ?_
  rotate_left
  · intro w' hSw
    try dsimp only at hSw
    obtain ⟨y1,y2,y3,y4⟩:=hSw;go_simp
    try with_reducible rfl
  try simp only [Act.put,SL]
  refine wpAnyM_pure (i:=12) (oi:=_) (v:=?_) rfl (by kernel_rfl) (fun _ _ _ h => h) (Or.inl ⟨by kernel_rfl,?_⟩) (by assumption) ?_
  rotate_left
  · intro w' hSw;go_simp;try with_reducible rfl
  try simp only [Act.put,SL]
  refine wpAnyM_take (i:=13) (oi:=_) (v:=?_) 16 rfl (by kernel_rfl) (fun _ _ _ h => h) (Or.inl ⟨by kernel_rfl,?_⟩) (by assumption) ?_
  rotate_left
  · intro w' hSw
    try dsimp only at hSw
    obtain ⟨y1,y2,y3,y4⟩:=hSw;go_simp
    try with_reducible rfl
  try simp only [Act.put,SL]
  refine wpAnyM_pure (i:=14) (oi:=_) (v:=?_) rfl (by kernel_rfl) (fun _ _ _ h => h) (Or.inl ⟨by kernel_rfl,?_⟩) (by assumption) ?_
  rotate_left
  · intro w' hSw;go_simp;try with_reducible rfl
  try simp only [Act.put,SL]
  refine wpAnyM_oneS (i:=15) (o:=_) rfl (by kernel_rfl) (fun KC hKC => ?_);refine step_entry rfl 100 _ _ rfl b3 _ _ (by simp [Act.eval,Act.put]) (by simp [Act.eval,Act.put]) hent ?_;refine hKC _ _ S5 ?_;clear hKC KC
  try simp only [Act.put,SL]
  refine wpAnyM_pure (i:=16) (oi:=_) (v:=?_) rfl (by kernel_rfl) (fun _ _ _ h => h) (Or.inl ⟨by kernel_rfl,?_⟩) S5 ?_
  rotate_left
  · intro w' hSw;go_simp;try with_reducible rfl
  try simp only [Act.put,SL]
  refine wpAnyM_one (i:=17) (o:=_) rfl (by kernel_rfl) (by kernel_rfl) (fun KC hKC => ?_);refine step_estore rfl 100 _ _ _ rfl b3 _ _ (by simp [Act.eval,Act.put]) (by simp [Act.eval,Act.put]) (by simp [Act.eval,Act.put]) hrun6 ?_;refine hKC _ _ ?_;clear hKC KC
  try simp only [Act.put,SL]
  refine wpAnyM_done (by kernel_rfl) ?_ _;clear S5 S3 hHeld hent hrun6 z5
  go_upto_region 11 with fail
  refine wp_region_still_tail 10 (by kernel_rfl) (by kernel_rfl) ?_;obtain ⟨WB,hWB⟩:∃ y:World,y = { w6 with drawn:=w6.drawn + 1 }:=⟨_,rfl⟩
  have M3:MapV WB 150 b3 (k + 1) (putF (donF x k) (.agg #[.int .i64 r.seq,.int .i64 r.group]) (.int .i64 ((cn:Int) + 1))):=by rw [hWB];exact HM3.out
  have M4:MapV WB 2 b4 k (endF x k):=by rw [hWB];exact HM4.out
  have X7:Box WB w1.heap.size #[.int .i64 r.kind,.int .i64 r.seq,.string r.name,.int .i64 r.length,.int .i64 r.group,.int .i64 r.row,.slice ao6 r.rows.1 cap6,.slice ao7 r.data.1 cap7,.slice ao8 r.delta.1 cap8] 148:=by rw [hWB];exact HX6.out
  have d4:WB.cell? ⟨B,13,none⟩ = some (.map (some b4)):=by rw [hWB];exact HY6.out
  have B7:Below lo w WB:=by rw [hWB];have q:=HB6.out;exact ⟨q.os,q.tape,q.output,q.size,q.block⟩
  have E7:∀ b,b < W2.drew.heap.size → b ≠ b3 → WB.heap[b]? = W2.drew.heap[b]?:=by rw [hWB];exact HE6.out
  have Z7:WB.heap.size = W2.drew.heap.size:=by rw [hWB];exact S6
  rw [← hWB];clear hWB;have c0:WB.cell? ⟨w1.heap.size,0,none⟩ = some (.int .i64 r.kind):=X7.cell 0;have c1:WB.cell? ⟨w1.heap.size,1,none⟩ = some (.int .i64 r.seq):=X7.cell 1;have c2:WB.cell? ⟨w1.heap.size,2,none⟩ = some (.string r.name):=X7.cell 2;have c3:WB.cell? ⟨w1.heap.size,3,none⟩ = some (.int .i64 r.length):=X7.cell 3;have c4:WB.cell? ⟨w1.heap.size,4,none⟩ = some (.int .i64 r.group):=X7.cell 4;have c5:WB.cell? ⟨w1.heap.size,5,none⟩ = some (.int .i64 r.row):=X7.cell 5;have c6:WB.cell? ⟨w1.heap.size,6,none⟩ = some (.slice ao6 r.rows.1 cap6):=X7.cell 6;have c7:WB.cell? ⟨w1.heap.size,7,none⟩ = some (.slice ao7 r.data.1 cap7):=X7.cell 7;have c8:WB.cell? ⟨w1.heap.size,8,none⟩ = some (.slice ao8 r.delta.1 cap8):=X7.cell 8;obtain ⟨kl,hkl⟩:=keyOf_I hs;have hlook:=M4.look keyI Tryz.underlying99 (zero64 _) hkl;have hdn:=cN_le (fun i => (x i).kind = 3) (fun i => .int .i64 (x i).seq) (.int .i64 r.seq) k;rw [show endF x k (.int .i64 r.seq) = cntF (fun i => (x i).kind = 3) (fun i => .int .i64 (x i).seq) k (.int .i64 r.seq) from rfl,cntF_get] at hlook;obtain ⟨dn,hdn2⟩:∃ dn,dn = cN (fun i => (x i).kind = 3) (fun i => .int .i64 (x i).seq) (.int .i64 r.seq) k:=⟨_,rfl⟩;have HDN:Hid (dn = cN (fun i => (x i).kind = 3) (fun i => .int .i64 (x i).seq) (.int .i64 r.seq) k):=hdn2;rw [← hdn2] at hlook hdn
  have hwd:IntKind.i64.wrap ((dn:Int) + 1) = (dn:Int) + 1:=by rw [IntKind.wrap_i64];omega
  obtain ⟨w',hrun,M,G,S⟩:=M4.put keyI Tryz.underlying99 (by unfold maxLen;omega) hkl (.int .i64 ((dn:Int) + 1))
  have n34:b3 ≠ b4:=fun e => by have:=HL3.out.nd;simp at this;omega
  have HN3:Hid (MapV w' 150 b3 (k + 1) (putF (donF x k) (.agg #[.int .i64 r.seq,.int .i64 r.group]) (.int .i64 ((cn:Int) + 1)))):=M3.block (G.block b3 M3.lt (fun e => n34 (by cases e;rfl)));have HN4:Hid (MapV w' 2 b4 (k + 1) (putF (endF x k) (.int .i64 r.seq) (.int .i64 ((dn:Int) + 1)))):=M
  have HE:Hid (∀ b,b < W2.drew.heap.size → b ∉ [b3,b4] → w'.heap[b]? = W2.drew.heap[b]?):=fun b hb hn => by
    simp at hn
    exact (G.block b (by rw [Z7];exact hb) (fun e => hn.2 (by cases e;rfl))).trans (E7 b hb hn.1)
  have HBE:Hid (Below lo w w'):=B7.trans ⟨G.os,G.tape,G.output,G.size,fun b hb => G.block b (by have:=B7.size;omega) (fun e => by cases e;have:=HL3.out.low;omega)⟩;clear M G M3 M4 X7 B7 E7 hkl hdn2 HM3 HM4 HX6 HY6 HB6 HE6
  simp only [List.take_succ_cons,List.take_zero,List.drop_succ_cons,List.drop_zero]
  repeat still_step
  refine wpStill_nil ?_;go_wp2;refine bodyPost_end (v:=.tuple #[]) (by simp [results,Tryz.results63]) rfl ?_
  exact ⟨rfl,⟨_,HL3.out.next (T:=[b3,b4]) HE.out (fun b hb => by simp at hb ⊢;omega)
    (by rw [show newF x ce (k + 1) = newF x ce k from lastF_skip (show ¬ (x k).kind = 1 by rw [HX.out,HKD.out];decide)];exact (HL3.out.m1.block (HE.out b1 HL3.out.m1.lt (by have:=HL3.out.nd;simp at this ⊢;omega))).mono (Nat.le_succ k))
    (by rw [show movF x (k + 1) = movF x k from cntF_skip (show ¬ (x k).kind = 2 by rw [HX.out,HKD.out];decide)];exact (HL3.out.m2.block (HE.out b2 HL3.out.m2.lt (by have:=HL3.out.nd;simp at this ⊢;omega))).mono (Nat.le_succ k))
    (by rw [show donF x (k + 1) = putF (donF x k) (.agg #[.int .i64 (x k).seq,.int .i64 (x k).group]) (.int .i64 ((cN (fun i => (x i).kind = 3) (fun i => .agg #[.int .i64 (x i).seq,.int .i64 (x i).group]) (.agg #[.int .i64 (x k).seq,.int .i64 (x k).group]) k:Int) + 1)) from cntF_put (show (x k).kind = 3 by rw [HX.out,HKD.out]),HX.out,← HCN.out];exact HN3.out)
    (by rw [show endF x (k + 1) = putF (endF x k) (.int .i64 (x k).seq) (.int .i64 ((cN (fun i => (x i).kind = 3) (fun i => .int .i64 (x i).seq) (.int .i64 (x k).seq) k:Int) + 1)) from cntF_put (show (x k).kind = 3 by rw [HX.out,HKD.out]),HX.out,← HDN.out];exact HN4.out)
    (by rw [show shaF x (k + 1) = shaF x k from lastF_skip (show ¬ (x k).kind = 4 by rw [HX.out,HKD.out];decide)];exact (HL3.out.m5.block (HE.out b5 HL3.out.m5.lt (by have:=HL3.out.nd;simp at this ⊢;omega))).mono (Nat.le_succ k)),⟨HLO.out,fun b hb hT hv => (HE.out b (Nat.lt_of_lt_of_le hb HZ3.out) (fun q => hT (by simp at q ⊢;omega))).trans (HA3.out b hb (fun e => hT (by rw [e];simp)) hv)⟩⟩,HBE.out⟩
end Go.Proofs.YtfoidpcoiankoaaGreat
namespace Go.Proofs.YtfoidpcoiankoaaGreat
open Go.RowKit F256
def SameI (n m:Nat) (f g:Nat → Int):Prop:=n = m ∧ ∀ i,i < n → f i = g i
set_option maxHeartbeats 1000000 in
theorem l6Nums_any (v1 v2:Value) (n m:Nat) (f g:Nat → Int) (h1 h2:Nat) (w:World) (r1:RdI w h1 v1 n f) (r2:RdI w h2 v2 m g) :
    Calls Tryz.prog 114 #[v1,v2] w (BoolP (SameI n m f g) w):=by
  obtain ⟨ao,cap,rfl,hm,hc⟩:=r1;obtain ⟨ao2,cap2,rfl,hm2,hc2⟩:=r2;unfold maxLen at hm hm2
  by_cases hnm:n = m
  · subst hnm
    go_enter Tryz.func114,Tryz.ntmps114
    go_wp2
    go_loopw [5] (fun i wr => ∃ k:Nat,k ≤ n ∧ i = .int .i64 k ∧ (∀ i,i < k → f i = g i) ∧ ∃ m,wr = w.drewN m) (fun i _ => n - (intOf i).toNat)
    case atStart => exact ⟨0,Nat.zero_le _,rfl,fun i hi => by omega,0,rfl⟩
    case round =>
      obtain ⟨k,hk,rfl,hall,q,rfl⟩:=hrel;have HALL:Hid (∀ i,i < k → f i = g i):=hall;clear hall
      by_cases hlt:k < n
      · obtain ⟨b,off,rfl,hblt,hcell⟩:=hc (by omega)
        obtain ⟨b2,off2,rfl,hblt2,hcell2⟩:=hc2 (by omega);have hck:w.cell? ⟨b,off + k,none⟩ = some (.int .i64 (f k)):=hcell k hlt;have hck2:w.cell? ⟨b2,off2 + k,none⟩ = some (.int .i64 (g k)):=hcell2 k hlt;obtain ⟨x,hx⟩:∃ x,x = f k:=⟨_,rfl⟩;obtain ⟨y,hy⟩:∃ y,y = g k:=⟨_,rfl⟩;have HX:Hid (x = f k):=hx;have HY:Hid (y = g k):=hy;rw [← hx] at hck;rw [← hy] at hck2;clear hc hc2 hcell hcell2 hx hy
        by_cases heq:x = y
        · subst heq
          go_wp2
          go_quiet (fail)
          go_wp2
          go_roundw
          case rel => exact ⟨k + 1,by omega,by go_num,fun i hi => by
                        by_cases c:i = k
                        · rw [c,← HX.out,← HY.out]
                        · exact HALL.out i (by omega),_,rfl⟩
          case measure => simp [intOf];omega
        · have tn:(x != y) = true:=by simp;omega
          go_wp2
          go_quiet (fail)
          go_wp2;go_ret;exact boolNo rfl (fun h => absurd (h.2 k hlt) (by rw [← HX.out,← HY.out];exact heq)) (below_drewN (below_drewN (Below.refl _ _) _) _)
      · have hkn:k = n:=by omega
        subst hkn;go_wp2;go_ret;exact boolYes rfl ⟨rfl,HALL.out⟩ (below_drewN (Below.refl _ _) _)
  · have tn:((n:Int) != (m:Int)) = true:=by simp;omega
    clear hc hc2
    go_enter Tryz.func114,Tryz.ntmps114
    go_wp2;go_ret;exact boolNo rfl (fun h => hnm h.1) (Below.refl _ _)
set_option maxHeartbeats 1000000 in
theorem equalB_any (v1 v2:Value) (n m:Nat) (f g:Nat → Nat) (h1 h2:Nat) (w:World) (r1:Rd w h1 v1 n f) (r2:Rd w h2 v2 m g) :
    Calls Tryz.prog 151 #[v1,v2] w (BoolP (SameP n m f g) w):=by
  obtain ⟨ao,cap,rfl,hm,hc⟩:=r1;obtain ⟨ao2,cap2,rfl,hm2,hc2⟩:=r2;unfold maxLen at hm hm2
  by_cases hnm:n = m
  · subst hnm
    go_enter Tryz.func151,Tryz.ntmps151
    go_wp2
    go_loopw [13] (fun i wr => ∃ k:Nat,k ≤ n ∧ i = .int .i64 k ∧ (∀ i,i < k → f i = g i) ∧ ∃ m,wr = w.drewN m) (fun i _ => n - (intOf i).toNat)
    case atStart => exact ⟨0,Nat.zero_le _,rfl,fun i hi => by omega,0,rfl⟩
    case round =>
      obtain ⟨k,hk,rfl,hall,q,rfl⟩:=hrel;have HALL:Hid (∀ i,i < k → f i = g i):=hall;clear hall
      by_cases hlt:k < n
      · obtain ⟨b,off,rfl,hblt,hcell⟩:=hc (by omega)
        obtain ⟨b2,off2,rfl,hblt2,hcell2⟩:=hc2 (by omega);have hck:w.cell? ⟨b,off + k,none⟩ = some (.int .u8 (f k)):=hcell k hlt;have hck2:w.cell? ⟨b2,off2 + k,none⟩ = some (.int .u8 (g k)):=hcell2 k hlt;obtain ⟨x,hx⟩:∃ x,x = f k:=⟨_,rfl⟩;obtain ⟨y,hy⟩:∃ y,y = g k:=⟨_,rfl⟩;have HX:Hid (x = f k):=hx;have HY:Hid (y = g k):=hy;rw [← hx] at hck;rw [← hy] at hck2;clear hc hc2 hcell hcell2 hx hy
        by_cases heq:x = y
        · subst heq
          go_wp2
          go_quiet (fail)
          go_wp2
          go_roundw
          case rel => exact ⟨k + 1,by omega,by go_num,fun i hi => by
                        by_cases c:i = k
                        · rw [c,← HX.out,← HY.out]
                        · exact HALL.out i (by omega),_,rfl⟩
          case measure => simp [intOf];omega
        · have tn:((x:Int) != (y:Int)) = true:=by simp;omega
          go_wp2
          go_quiet (fail)
          go_wp2;go_ret;exact boolNo rfl (fun h => absurd (h.2 k hlt) (by rw [← HX.out,← HY.out];exact heq)) (below_drewN (below_drewN (Below.refl _ _) _) _)
      · have hkn:k = n:=by omega
        subst hkn;go_wp2;go_ret;exact boolYes rfl ⟨rfl,HALL.out⟩ (below_drewN (Below.refl _ _) _)
  · have tn:((n:Int) != (m:Int)) = true:=by simp;omega
    clear hc hc2
    go_enter Tryz.func151,Tryz.ntmps151
    go_wp2;go_ret;exact boolNo rfl (fun h => hnm h.1) (Below.refl _ _)
set_option maxHeartbeats 1000000 in
theorem equalI_any (v1 v2:Value) (n m:Nat) (f g:Nat → Int) (h1 h2:Nat) (w:World) (r1:RdI w h1 v1 n f) (r2:RdI w h2 v2 m g) :
    Calls Tryz.prog 150 #[v1,v2] w (BoolP (SameI n m f g) w):=by
  obtain ⟨ao,cap,rfl,hm,hc⟩:=r1;obtain ⟨ao2,cap2,rfl,hm2,hc2⟩:=r2;unfold maxLen at hm hm2
  by_cases hnm:n = m
  · subst hnm
    go_enter Tryz.func150,Tryz.ntmps150
    go_wp2
    go_loopw [13] (fun i wr => ∃ k:Nat,k ≤ n ∧ i = .int .i64 k ∧ (∀ i,i < k → f i = g i) ∧ ∃ m,wr = w.drewN m) (fun i _ => n - (intOf i).toNat)
    case atStart => exact ⟨0,Nat.zero_le _,rfl,fun i hi => by omega,0,rfl⟩
    case round =>
      obtain ⟨k,hk,rfl,hall,q,rfl⟩:=hrel;have HALL:Hid (∀ i,i < k → f i = g i):=hall;clear hall
      by_cases hlt:k < n
      · obtain ⟨b,off,rfl,hblt,hcell⟩:=hc (by omega)
        obtain ⟨b2,off2,rfl,hblt2,hcell2⟩:=hc2 (by omega);have hck:w.cell? ⟨b,off + k,none⟩ = some (.int .i64 (f k)):=hcell k hlt;have hck2:w.cell? ⟨b2,off2 + k,none⟩ = some (.int .i64 (g k)):=hcell2 k hlt;obtain ⟨x,hx⟩:∃ x,x = f k:=⟨_,rfl⟩;obtain ⟨y,hy⟩:∃ y,y = g k:=⟨_,rfl⟩;have HX:Hid (x = f k):=hx;have HY:Hid (y = g k):=hy;rw [← hx] at hck;rw [← hy] at hck2;clear hc hc2 hcell hcell2 hx hy
        by_cases heq:x = y
        · subst heq
          go_wp2
          go_quiet (fail)
          go_wp2
          go_roundw
          case rel => exact ⟨k + 1,by omega,by go_num,fun i hi => by
                        by_cases c:i = k
                        · rw [c,← HX.out,← HY.out]
                        · exact HALL.out i (by omega),_,rfl⟩
          case measure => simp [intOf];omega
        · have tn:(x != y) = true:=by simp;omega
          go_wp2
          go_quiet (fail)
          go_wp2;go_ret;exact boolNo rfl (fun h => absurd (h.2 k hlt) (by rw [← HX.out,← HY.out];exact heq)) (below_drewN (below_drewN (Below.refl _ _) _) _)
      · have hkn:k = n:=by omega
        subst hkn;go_wp2;go_ret;exact boolYes rfl ⟨rfl,HALL.out⟩ (below_drewN (Below.refl _ _) _)
  · have tn:((n:Int) != (m:Int)) = true:=by simp;omega
    clear hc hc2
    go_enter Tryz.func150,Tryz.ntmps150
    go_wp2;go_ret;exact boolNo rfl (fun h => hnm h.1) (Below.refl _ _)
end Go.Proofs.YtfoidpcoiankoaaGreat
namespace Go.Proofs.YtfoidpcoiankoaaGreat
open Go.RowKit F256
theorem toList_inj {a b:ByteArray}:a.toList = b.toList ↔ a = b:=by
  constructor
  · intro h
    rw [ByteArray.toList_eq,ByteArray.toList_eq] at h
    cases a
    cases b
    congr
    exact Array.toList_inj.1 h
  · intro h;rw [h]
structure SameR (a b:RecD):Prop where
  kind:a.kind = b.kind
  seq:a.seq = b.seq
  name:a.name = b.name
  length:a.length = b.length
  group:a.group = b.group
  row:a.row = b.row
  rows:SameI a.rows.1 b.rows.1 a.rows.2 b.rows.2
  data:SameP a.data.1 b.data.1 a.data.2 b.data.2
  delta:SameP a.delta.1 b.delta.1 a.delta.2 b.delta.2
set_option maxHeartbeats 8000000 in
set_option maxRecDepth 20000 in
theorem specSame_any (a b:RecD) (c1 c2:List Value) (h1 h2:Nat) (w:World) (r1:layRec.rd w h1 a c1) (r2:layRec.rd w h2 b c2) (u1:h1 ≤ w.heap.size) (u2:h2 ≤ w.heap.size) :
    Calls Tryz.prog 87 #[.agg c1.toArray,.agg c2.toArray] w (BoolP (SameR a b) w):=by
  obtain ⟨xo6,xc6,xo7,xc7,xo8,xc8,rfl,p6,p7,p8,-⟩:=Rec_rd r1;obtain ⟨yo6,yc6,yo7,yc7,yo8,yc8,rfl,q6,q7,q8,-⟩:=Rec_rd r2;obtain ⟨_,e,⟨p6,_⟩,_⟩:=p6
  cases e
  obtain ⟨_,e,⟨q6,_⟩,_⟩:=q6
  cases e
  obtain ⟨_,e,p7,_⟩:=p7
  cases e
  obtain ⟨_,e,q7,_⟩:=q7
  cases e
  obtain ⟨_,e,p8,_⟩:=p8
  cases e
  obtain ⟨_,e,q8,_⟩:=q8
  cases e
  clear r1 r2;have T0:=two_newb w #[.int .i64 a.kind,.int .i64 a.seq,.string a.name,.int .i64 a.length,.int .i64 a.group,.int .i64 a.row,.slice xo6 a.rows.1 xc6,.slice xo7 a.data.1 xc7,.slice xo8 a.delta.1 xc8] #[.int .i64 b.kind,.int .i64 b.seq,.string b.name,.int .i64 b.length,.int .i64 b.group,.int .i64 b.row,.slice yo6 b.rows.1 yc6,.slice yo7 b.data.1 yc7,.slice yo8 b.delta.1 yc8] 66 66;have HT0:Hid (Two w ((w.alloc (.cells #[.int .i64 a.kind,.int .i64 a.seq,.string a.name,.int .i64 a.length,.int .i64 a.group,.int .i64 a.row,.slice xo6 a.rows.1 xc6,.slice xo7 a.data.1 xc7,.slice xo8 a.delta.1 xc8] 66)).alloc (.cells #[.int .i64 b.kind,.int .i64 b.seq,.string b.name,.int .i64 b.length,.int .i64 b.group,.int .i64 b.row,.slice yo6 b.rows.1 yc6,.slice yo7 b.data.1 yc7,.slice yo8 b.delta.1 yc8] 66)) #[.int .i64 a.kind,.int .i64 a.seq,.string a.name,.int .i64 a.length,.int .i64 a.group,.int .i64 a.row,.slice xo6 a.rows.1 xc6,.slice xo7 a.data.1 xc7,.slice xo8 a.delta.1 xc8] #[.int .i64 b.kind,.int .i64 b.seq,.string b.name,.int .i64 b.length,.int .i64 b.group,.int .i64 b.row,.slice yo6 b.rows.1 yc6,.slice yo7 b.data.1 yc7,.slice yo8 b.delta.1 yc8] 66 66):=T0;obtain ⟨e0,he0⟩:∃ t,(a.kind == b.kind) = t:=⟨_,rfl⟩
  have HE0:Hid (e0 = true ↔ a.kind = b.kind):=by show _ ↔ _;rw [← he0];exact beq_iff_eq
  obtain ⟨e1,he1⟩:∃ t,(a.seq == b.seq) = t:=⟨_,rfl⟩
  have HE1:Hid (e1 = true ↔ a.seq = b.seq):=by show _ ↔ _;rw [← he1];exact beq_iff_eq
  obtain ⟨e2,he2⟩:∃ t,(a.name.toList == b.name.toList) = t:=⟨_,rfl⟩
  have HE2:Hid (e2 = true ↔ a.name = b.name):=by show _ ↔ _;rw [← he2,beq_iff_eq];exact toList_inj
  have he2':decide (a.name.toList = b.name.toList) = e2:=by rw [← he2,Bool.eq_iff_iff];simp
  obtain ⟨e3,he3⟩:∃ t,(a.length == b.length) = t:=⟨_,rfl⟩
  have HE3:Hid (e3 = true ↔ a.length = b.length):=by show _ ↔ _;rw [← he3];exact beq_iff_eq
  obtain ⟨e4,he4⟩:∃ t,(a.group == b.group) = t:=⟨_,rfl⟩
  have HE4:Hid (e4 = true ↔ a.group = b.group):=by show _ ↔ _;rw [← he4];exact beq_iff_eq
  obtain ⟨e5,he5⟩:∃ t,(a.row == b.row) = t:=⟨_,rfl⟩
  have HE5:Hid (e5 = true ↔ a.row = b.row):=by show _ ↔ _;rw [← he5];exact beq_iff_eq
  obtain ⟨t6,ht6⟩:=exB (SameI a.rows.1 b.rows.1 a.rows.2 b.rows.2);obtain ⟨t7,ht7⟩:=exB (SameP a.data.1 b.data.1 a.data.2 b.data.2);obtain ⟨t8,ht8⟩:=exB (SameP a.delta.1 b.delta.1 a.delta.2 b.delta.2);have C6:=fun (w':World) (hb:Below w.heap.size w w') => det_b (l6Nums_any _ _ a.rows.1 b.rows.1 a.rows.2 b.rows.2 h1 h2 w' (p6.below hb u1) (q6.below hb u2)) ht6;have C7:=fun (w':World) (hb:Below w.heap.size w w') => det_b (l2Same_any _ _ a.data.1 b.data.1 a.data.2 b.data.2 h1 h2 w' (p7.below hb u1) (q7.below hb u2)) ht7;have C8:=fun (w':World) (hb:Below w.heap.size w w') => det_b (l2Same_any _ _ a.delta.1 b.delta.1 a.delta.2 b.delta.2 h1 h2 w' (p8.below hb u1) (q8.below hb u2)) ht8;have HT6:Hid (t6 = true ↔ SameI a.rows.1 b.rows.1 a.rows.2 b.rows.2):=ht6;have HT7:Hid (t7 = true ↔ SameP a.data.1 b.data.1 a.data.2 b.data.2):=ht7;have HT8:Hid (t8 = true ↔ SameP a.delta.1 b.delta.1 a.delta.2 b.delta.2):=ht8;clear p6 p7 p8 q6 q7 q8 ht6 ht7 ht8
  go_enter Tryz.func87,Tryz.ntmps87
  cases e0 with
  | false =>
    go_wp2;go_ret;exact boolNo rfl (fun h => by have:=HE0.out.2 h.kind;simp at this) HT0.out.bel
  | true =>
  cases e1 with
  | false =>
    go_wp2;go_ret;exact boolNo rfl (fun h => by have:=HE1.out.2 h.seq;simp at this) HT0.out.bel
  | true =>
  cases e2 with
  | false =>
    go_wp2;go_ret;exact boolNo rfl (fun h => by have:=HE2.out.2 h.name;simp at this) HT0.out.bel
  | true =>
  cases e3 with
  | false =>
    go_wp2;go_ret;exact boolNo rfl (fun h => by have:=HE3.out.2 h.length;simp at this) HT0.out.bel
  | true =>
  cases e4 with
  | false =>
    go_wp2;go_ret;exact boolNo rfl (fun h => by have:=HE4.out.2 h.group;simp at this) HT0.out.bel
  | true =>
  cases e5 with
  | false =>
    go_wp2;go_ret;exact boolNo rfl (fun h => by have:=HE5.out.2 h.row;simp at this) HT0.out.bel
  | true =>
  go_wp2_with fail
  refine (C6 _ HT0.out.bel).mono ?_;rintro e w6 ⟨rfl,b6⟩;have T6:=HT0.out.call b6
  cases t6 with
  | false =>
    have HB:Hid (Below w.heap.size w w6):=T6.bel;clear T6 b6;go_wp2;go_ret;exact boolNo rfl (fun h => by have:=HT6.out.2 h.rows;simp at this) HB.out
  | true =>
  have x7:w6.cell? ⟨w.heap.size,7,none⟩ = some (.slice xo7 a.data.1 xc7):=T6.b1.cell 7;have y7:w6.cell? ⟨w.heap.size + 1,7,none⟩ = some (.slice yo7 b.data.1 yc7):=T6.b2.cell 7
  go_wp2_with fail
  refine (C7 _ T6.bel).mono ?_;rintro e w7 ⟨rfl,b7⟩;have T7:=T6.call b7
  cases t7 with
  | false =>
    have HB:Hid (Below w.heap.size w w7):=T7.bel;clear T7 b7;go_wp2;go_ret;exact boolNo rfl (fun h => by have:=HT7.out.2 h.data;simp at this) HB.out
  | true =>
  have x8:w7.cell? ⟨w.heap.size,8,none⟩ = some (.slice xo8 a.delta.1 xc8):=T7.b1.cell 8;have y8:w7.cell? ⟨w.heap.size + 1,8,none⟩ = some (.slice yo8 b.delta.1 yc8):=T7.b2.cell 8
  go_wp2_with fail
  refine (C8 _ T7.bel).mono ?_;rintro e w8 ⟨rfl,b8⟩;have T8:=T7.call b8
  cases t8 with
  | false =>
    have HB:Hid (Below w.heap.size w w8):=T8.bel;clear T8 b8;go_wp2;go_ret;exact boolNo rfl (fun h => by have:=HT8.out.2 h.delta;simp at this) HB.out
  | true =>
  have HB:Hid (Below w.heap.size w w8):=T8.bel;clear T6 T7 T8 b6 b7 b8;go_wp2;go_ret;exact boolYes rfl ⟨HE0.out.1 (by simp),HE1.out.1 (by simp),HE2.out.1 (by simp),HE3.out.1 (by simp),HE4.out.1 (by simp),HE5.out.1 (by simp),HT6.out.1 (by simp),HT7.out.1 (by simp),HT8.out.1 (by simp)⟩ HB.out
set_option maxHeartbeats 8000000 in
set_option maxRecDepth 20000 in
theorem implSame_any (a b:RecD) (c1 c2:List Value) (h1 h2:Nat) (w:World) (r1:layRec.rd w h1 a c1) (r2:layRec.rd w h2 b c2) (u1:h1 ≤ w.heap.size) (u2:h2 ≤ w.heap.size) :
    Calls Tryz.prog 129 #[.agg c1.toArray,.agg c2.toArray] w (BoolP (SameR a b) w):=by
  obtain ⟨xo6,xc6,xo7,xc7,xo8,xc8,rfl,p6,p7,p8,-⟩:=Rec_rd r1;obtain ⟨yo6,yc6,yo7,yc7,yo8,yc8,rfl,q6,q7,q8,-⟩:=Rec_rd r2;obtain ⟨_,e,⟨p6,_⟩,_⟩:=p6
  cases e
  obtain ⟨_,e,⟨q6,_⟩,_⟩:=q6
  cases e
  obtain ⟨_,e,p7,_⟩:=p7
  cases e
  obtain ⟨_,e,q7,_⟩:=q7
  cases e
  obtain ⟨_,e,p8,_⟩:=p8
  cases e
  obtain ⟨_,e,q8,_⟩:=q8
  cases e
  clear r1 r2;have T0:=two_newb w #[.int .i64 a.kind,.int .i64 a.seq,.string a.name,.int .i64 a.length,.int .i64 a.group,.int .i64 a.row,.slice xo6 a.rows.1 xc6,.slice xo7 a.data.1 xc7,.slice xo8 a.delta.1 xc8] #[.int .i64 b.kind,.int .i64 b.seq,.string b.name,.int .i64 b.length,.int .i64 b.group,.int .i64 b.row,.slice yo6 b.rows.1 yc6,.slice yo7 b.data.1 yc7,.slice yo8 b.delta.1 yc8] 66 66;have HT0:Hid (Two w ((w.alloc (.cells #[.int .i64 a.kind,.int .i64 a.seq,.string a.name,.int .i64 a.length,.int .i64 a.group,.int .i64 a.row,.slice xo6 a.rows.1 xc6,.slice xo7 a.data.1 xc7,.slice xo8 a.delta.1 xc8] 66)).alloc (.cells #[.int .i64 b.kind,.int .i64 b.seq,.string b.name,.int .i64 b.length,.int .i64 b.group,.int .i64 b.row,.slice yo6 b.rows.1 yc6,.slice yo7 b.data.1 yc7,.slice yo8 b.delta.1 yc8] 66)) #[.int .i64 a.kind,.int .i64 a.seq,.string a.name,.int .i64 a.length,.int .i64 a.group,.int .i64 a.row,.slice xo6 a.rows.1 xc6,.slice xo7 a.data.1 xc7,.slice xo8 a.delta.1 xc8] #[.int .i64 b.kind,.int .i64 b.seq,.string b.name,.int .i64 b.length,.int .i64 b.group,.int .i64 b.row,.slice yo6 b.rows.1 yc6,.slice yo7 b.data.1 yc7,.slice yo8 b.delta.1 yc8] 66 66):=T0;obtain ⟨e0,he0⟩:∃ t,(a.kind == b.kind) = t:=⟨_,rfl⟩
  have HE0:Hid (e0 = true ↔ a.kind = b.kind):=by show _ ↔ _;rw [← he0];exact beq_iff_eq
  obtain ⟨e1,he1⟩:∃ t,(a.seq == b.seq) = t:=⟨_,rfl⟩
  have HE1:Hid (e1 = true ↔ a.seq = b.seq):=by show _ ↔ _;rw [← he1];exact beq_iff_eq
  obtain ⟨e2,he2⟩:∃ t,(a.name.toList == b.name.toList) = t:=⟨_,rfl⟩
  have HE2:Hid (e2 = true ↔ a.name = b.name):=by show _ ↔ _;rw [← he2,beq_iff_eq];exact toList_inj
  have he2':decide (a.name.toList = b.name.toList) = e2:=by rw [← he2,Bool.eq_iff_iff];simp
  obtain ⟨e3,he3⟩:∃ t,(a.length == b.length) = t:=⟨_,rfl⟩
  have HE3:Hid (e3 = true ↔ a.length = b.length):=by show _ ↔ _;rw [← he3];exact beq_iff_eq
  obtain ⟨e4,he4⟩:∃ t,(a.group == b.group) = t:=⟨_,rfl⟩
  have HE4:Hid (e4 = true ↔ a.group = b.group):=by show _ ↔ _;rw [← he4];exact beq_iff_eq
  obtain ⟨e5,he5⟩:∃ t,(a.row == b.row) = t:=⟨_,rfl⟩
  have HE5:Hid (e5 = true ↔ a.row = b.row):=by show _ ↔ _;rw [← he5];exact beq_iff_eq
  obtain ⟨t6,ht6⟩:=exB (SameI a.rows.1 b.rows.1 a.rows.2 b.rows.2);obtain ⟨t7,ht7⟩:=exB (SameP a.data.1 b.data.1 a.data.2 b.data.2);obtain ⟨t8,ht8⟩:=exB (SameP a.delta.1 b.delta.1 a.delta.2 b.delta.2);have C6:=fun (w':World) (hb:Below w.heap.size w w') => det_b (equalI_any _ _ a.rows.1 b.rows.1 a.rows.2 b.rows.2 h1 h2 w' (p6.below hb u1) (q6.below hb u2)) ht6;have C7:=fun (w':World) (hb:Below w.heap.size w w') => det_b (equalB_any _ _ a.data.1 b.data.1 a.data.2 b.data.2 h1 h2 w' (p7.below hb u1) (q7.below hb u2)) ht7;have C8:=fun (w':World) (hb:Below w.heap.size w w') => det_b (equalB_any _ _ a.delta.1 b.delta.1 a.delta.2 b.delta.2 h1 h2 w' (p8.below hb u1) (q8.below hb u2)) ht8;have HT6:Hid (t6 = true ↔ SameI a.rows.1 b.rows.1 a.rows.2 b.rows.2):=ht6;have HT7:Hid (t7 = true ↔ SameP a.data.1 b.data.1 a.data.2 b.data.2):=ht7;have HT8:Hid (t8 = true ↔ SameP a.delta.1 b.delta.1 a.delta.2 b.delta.2):=ht8;clear p6 p7 p8 q6 q7 q8 ht6 ht7 ht8;obtain ⟨nb,hnb⟩:∃ t,t = (e0 && (e1 && (e3 && (e4 && e5)))):=⟨_,rfl⟩;have HNB:Hid (nb = (e0 && (e1 && (e3 && (e4 && e5))))):=hnb;obtain ⟨lb,hlb⟩:∃ t,t = (t6 && (t7 && t8)):=⟨_,rfl⟩;have HLB:Hid (lb = (t6 && (t7 && t8))):=hlb
  have HN:Hid (nb = true ↔ (a.kind = b.kind ∧ a.seq = b.seq ∧ a.length = b.length ∧ a.group = b.group ∧ a.row = b.row)):=by
    show _ ↔ _
    rw [HNB.out,Bool.and_eq_true,Bool.and_eq_true,Bool.and_eq_true,Bool.and_eq_true,HE0.out,HE1.out,HE3.out,HE4.out,HE5.out]
  have HL:Hid (lb = true ↔ (SameI a.rows.1 b.rows.1 a.rows.2 b.rows.2 ∧ SameP a.data.1 b.data.1 a.data.2 b.data.2 ∧ SameP a.delta.1 b.delta.1 a.delta.2 b.delta.2)):=by
    show _ ↔ _
    rw [HLB.out,Bool.and_eq_true,Bool.and_eq_true,HT6.out,HT7.out,HT8.out]
  clear hnb hlb
  go_enter Tryz.func129,Tryz.ntmps129
  go_upto_region 1 with fail
  obtain ⟨W0,hW0⟩:∃ x,x = (w.alloc (.cells #[.int .i64 a.kind,.int .i64 a.seq,.string a.name,.int .i64 a.length,.int .i64 a.group,.int .i64 a.row,.slice xo6 a.rows.1 xc6,.slice xo7 a.data.1 xc7,.slice xo8 a.delta.1 xc8] 66)).alloc (.cells #[.int .i64 b.kind,.int .i64 b.seq,.string b.name,.int .i64 b.length,.int .i64 b.group,.int .i64 b.row,.slice yo6 b.rows.1 yc6,.slice yo7 b.data.1 yc7,.slice yo8 b.delta.1 yc8] 66):=⟨_,rfl⟩;rw [← hW0] at T0 HT0 ⊢;clear hW0;have x_0:W0.cell? ⟨w.heap.size,0,none⟩ = some (.int .i64 a.kind):=T0.b1.cell 0;have x_1:W0.cell? ⟨w.heap.size,1,none⟩ = some (.int .i64 a.seq):=T0.b1.cell 1;have x_2:W0.cell? ⟨w.heap.size,2,none⟩ = some (.string a.name):=T0.b1.cell 2;have x_3:W0.cell? ⟨w.heap.size,3,none⟩ = some (.int .i64 a.length):=T0.b1.cell 3;have x_4:W0.cell? ⟨w.heap.size,4,none⟩ = some (.int .i64 a.group):=T0.b1.cell 4;have x_5:W0.cell? ⟨w.heap.size,5,none⟩ = some (.int .i64 a.row):=T0.b1.cell 5;have x_6:W0.cell? ⟨w.heap.size,6,none⟩ = some (.slice xo6 a.rows.1 xc6):=T0.b1.cell 6;have x_7:W0.cell? ⟨w.heap.size,7,none⟩ = some (.slice xo7 a.data.1 xc7):=T0.b1.cell 7;have x_8:W0.cell? ⟨w.heap.size,8,none⟩ = some (.slice xo8 a.delta.1 xc8):=T0.b1.cell 8;have y_0:W0.cell? ⟨w.heap.size + 1,0,none⟩ = some (.int .i64 b.kind):=T0.b2.cell 0;have y_1:W0.cell? ⟨w.heap.size + 1,1,none⟩ = some (.int .i64 b.seq):=T0.b2.cell 1;have y_2:W0.cell? ⟨w.heap.size + 1,2,none⟩ = some (.string b.name):=T0.b2.cell 2;have y_3:W0.cell? ⟨w.heap.size + 1,3,none⟩ = some (.int .i64 b.length):=T0.b2.cell 3;have y_4:W0.cell? ⟨w.heap.size + 1,4,none⟩ = some (.int .i64 b.group):=T0.b2.cell 4;have y_5:W0.cell? ⟨w.heap.size + 1,5,none⟩ = some (.int .i64 b.row):=T0.b2.cell 5;have y_6:W0.cell? ⟨w.heap.size + 1,6,none⟩ = some (.slice yo6 b.rows.1 yc6):=T0.b2.cell 6;have y_7:W0.cell? ⟨w.heap.size + 1,7,none⟩ = some (.slice yo7 b.data.1 yc7):=T0.b2.cell 7;have y_8:W0.cell? ⟨w.heap.size + 1,8,none⟩ = some (.slice yo8 b.delta.1 yc8):=T0.b2.cell 8;clear T0
  go_cut [5] (fun v wx => v = .bool nb ∧ wx = W0)
  case first =>
    cases e0 with
    | false =>
      go_wp2
      go_meet
      exact ⟨by rw [HNB.out];simp,rfl⟩
    | true =>
    cases e1 with
    | false =>
      go_wp2
      go_meet
      exact ⟨by rw [HNB.out];simp,rfl⟩
    | true =>
    cases e3 with
    | false =>
      go_wp2
      go_meet
      exact ⟨by rw [HNB.out];simp,rfl⟩
    | true =>
    cases e4 with
    | false =>
      go_wp2
      go_meet
      exact ⟨by rw [HNB.out];simp,rfl⟩
    | true =>
    cases e5 with
    | false =>
      go_wp2
      go_meet
      exact ⟨by rw [HNB.out];simp,rfl⟩
    | true =>
    go_wp2
    go_meet
    exact ⟨by rw [HNB.out];simp,rfl⟩
  case rest =>
    obtain ⟨rfl,rfl⟩:=hcut;clear he0 he1 he3 he4 he5
    go_upto_region 2 with fail
    go_cut [6] (fun v wx => v = .bool lb ∧ Below wc.heap.size wc wx)
    case first =>
      go_wp2_with fail
      refine (C6 _ HT0.out.bel).mono ?_;rintro e w6 ⟨rfl,b6⟩;have T6:=HT0.out.call b6;have B6:Hid (Below wc.heap.size wc w6):=b6
      cases t6 with
      | false =>
        clear T6 b6;go_wp2
        go_meet
        exact ⟨by rw [HLB.out];simp,B6.out⟩
      | true =>
      have x7':w6.cell? ⟨w.heap.size,7,none⟩ = some (.slice xo7 a.data.1 xc7):=T6.b1.cell 7;have y7':w6.cell? ⟨w.heap.size + 1,7,none⟩ = some (.slice yo7 b.data.1 yc7):=T6.b2.cell 7
      go_wp2_with fail
      refine (C7 _ T6.bel).mono ?_;rintro e w7 ⟨rfl,b7⟩;have T7:=T6.call b7;have B7:Hid (Below wc.heap.size wc w7):=B6.out.trans (b7.mono B6.out.size)
      cases t7 with
      | false =>
        clear T7 b7;go_wp2
        go_meet
        exact ⟨by rw [HLB.out];simp,B7.out⟩
      | true =>
      have x8':w7.cell? ⟨w.heap.size,8,none⟩ = some (.slice xo8 a.delta.1 xc8):=T7.b1.cell 8;have y8':w7.cell? ⟨w.heap.size + 1,8,none⟩ = some (.slice yo8 b.delta.1 yc8):=T7.b2.cell 8
      go_wp2_with fail
      refine (C8 _ T7.bel).mono ?_;rintro e w8 ⟨rfl,b8⟩;have T8:=T7.call b8;have B8:Hid (Below wc.heap.size wc w8):=B7.out.trans (b8.mono B7.out.size)
      cases t8 with
      | false =>
        clear T8 b8;go_wp2
        go_meet
        exact ⟨by rw [HLB.out];simp,B8.out⟩
      | true =>
      clear T6 T7 T8 b6 b7 b8;go_wp2
      go_meet
      exact ⟨by rw [HLB.out];simp,B8.out⟩
    case rest =>
      obtain ⟨rfl,b9⟩:=hcut;obtain ⟨w9,rfl⟩:∃ x,x = wc:=⟨_,rfl⟩;have T9:=HT0.out.call b9;have x2':w9.cell? ⟨w.heap.size,2,none⟩ = some (.string a.name):=T9.b1.cell 2;have y2':w9.cell? ⟨w.heap.size + 1,2,none⟩ = some (.string b.name):=T9.b2.cell 2;have HB:Hid (Below w.heap.size w w9):=T9.bel;clear T9 b9
      cases nb with
      | false =>
        go_wp2;go_ret;exact boolNo rfl (fun h => by have:=HN.out.2 ⟨h.kind,h.seq,h.length,h.group,h.row⟩;simp at this) HB.out
      | true =>
      cases e2 with
      | false =>
        go_wp2;go_ret;exact boolNo rfl (fun h => by have:=HE2.out.2 h.name;simp at this) HB.out
      | true =>
      cases lb with
      | false =>
        go_wp2;go_ret;exact boolNo rfl (fun h => by have:=HL.out.2 ⟨h.rows,h.data,h.delta⟩;simp at this) HB.out
      | true =>
        have N:=HN.out.1 (by simp);have M:=HL.out.1 (by simp);have HY:Hid (SameR a b):=⟨N.1,N.2.1,HE2.out.1 (by simp),N.2.2.1,N.2.2.2.1,N.2.2.2.2,M.1,M.2.1,M.2.2⟩;clear N M;go_wp2;go_ret;exact boolYes rfl HY.out HB.out
end Go.Proofs.YtfoidpcoiankoaaGreat
namespace Go.Proofs.YtfoidpcoiankoaaGreat
open Go.RowKit
section
variable {P:Program} {ops:Array Oper} {Q:Exit → Act → World → Prop} {md:Region.Mode} {S:World → Prop} {L:Nat}
theorem wpAnyM_firstN {i:Nat} {oi:Oper} {v:Value} (hi:ops[i]? = some oi) (hsel:∀ (j:Nat) (o:Oper) cs b,ops[j]? = some o → o.op ≠ .select cs b)
    (hQ:∀ c a w,Q (.panic c) (a.put oi.dst v) w → Q (.panic c) a w) (hN:ops.size ≤ L) :
    ∀ (fuel:Nat) (listed:Array Bool) (a:Act) (w:World),ClosedP md ops listed → listed.size = ops.size →
      (∀ j oj,ops[j]? = some oj → j ≠ i → listed.getD j true = false → (∀ e ∈ oj.after,Region.binds md e = true → e.on ≠ i) → oi.apart ops oj = true) →
      i ∈ Region.ready md ops listed → YieldsIf P ops S oi v a → S w →
      wpAnyM P md ops Q S L fuel (listed.setIfInBounds i true) (a.put oi.dst v) w → wpAnyM P md ops Q S L (fuel + 1) listed a w:=by
  intro fuel;have hil:i < ops.size:=(Array.getElem?_eq_some_iff.1 hi).1
  have hLi:L ≠ i:=by omega
  induction fuel with
  | zero =>
    intro listed a w _ _ _ hr hy hS H;refine ⟨fun h => (by rw [h] at hr;cases hr),fun j hj => ?_⟩
    by_cases hji:j = i
    · subst hji;exact hy.wpOp hi hS ⟨fun _ => hS,H⟩
    · have:=ready_mono hj hji
      rw [H.1] at this
      cases this
  | succ fuel ih =>
    intro listed a w hcl hls hfree hr hy hS H;refine ⟨fun h => (by rw [h] at hr;cases hr),fun j hj => ?_⟩
    by_cases hji:j = i
    · subst hji;exact hy.wpOp hi hS ⟨fun _ => hS,H⟩
    · have hjL:j ≠ L:=fun h => by
        obtain ⟨_,oj,hoj,_⟩:=mem_ready.1 hj;have:=(Array.getElem?_eq_some_iff.1 hoj).1;omega
      have h1:=H.2 j (ready_mono hj hji);obtain ⟨hjun,oj,hoj,hall⟩:=mem_ready.1 hj
      have hnot:∀ e ∈ oj.after,Region.binds md e = true → e.on ≠ i:=fun e he hb heq => by
        have h1:=hall e he hb;have h0:=unlisted_false (mem_ready.1 hr).1;rw [heq,h0] at h1
        cases h1
      have h2:=wpOp_putIf hoj (hfree j oj hoj hji hjun hnot) (fun cs b => hsel i oi cs b hi) (fun cs b => hsel j oj cs b hoj) hQ hy h1
      have hfree':∀ k ok,ops[k]? = some ok → k ≠ i → (listed.setIfInBounds j true).getD k true = false →
          (∀ e ∈ ok.after,Region.binds md e = true → e.on ≠ i) → oi.apart ops ok = true:=fun k ok hk hki hun hno => by
        refine hfree k ok hk hki ?_ hno
        by_cases hjk:j = k
        · subst hjk;exact hjun
        · rw [getD_set_ne true hjk] at hun;exact hun
      have hLn:(listed.setIfInBounds j true).getD L false = false:=by
        rw [getD_set_ne false hjL];rw [Array.getD_eq_getD_getElem?,Array.getElem?_eq_none (by omega)];rfl
      have hLn2:((listed.setIfInBounds i true).setIfInBounds j true).getD L false = false:=by
        rw [← Array.setIfInBounds_comm _ _ hji,getD_set_ne false (Ne.symm hLi)];exact hLn
      refine wpOp_mono (fun a' w' h3 => ⟨fun _ => h3.2.1 hLn2,ih (listed.setIfInBounds j true) a' w' (closed_step hcl hj) (by simp [hls]) hfree' (ready_mono hr (Ne.symm hji)) h3.1 (h3.2.1 hLn2) ?_⟩) h2;rw [Array.setIfInBounds_comm _ _ hji];exact h3.2.2
theorem wpAnyM_takeN {i:Nat} {oi:Oper} {v:Value} {fuel:Nat} {listed:Array Bool} {a:Act} {w:World} (hi:ops[i]? = some oi)
    (hs:(Region.noSelect ops && Region.free md ops listed i && (Region.ready md ops listed).contains i && decide (ops.size ≤ L) && decide (listed.size = ops.size) && closedB md ops listed) = true)
    (hQ:∀ c a w,Q (.panic c) (a.put oi.dst v) w → Q (.panic c) a w) (hy:YieldsIf P ops S oi v a) (hS:S w)
    (h:wpAnyM P md ops Q S L fuel (listed.setIfInBounds i true) (a.put oi.dst v) w):wpAnyM P md ops Q S L (fuel + 1) listed a w:=by
  simp only [Bool.and_eq_true,decide_eq_true_eq] at hs
  obtain ⟨⟨⟨⟨⟨h1,h2⟩,h3⟩,h4⟩,h5⟩,h6⟩:=hs;exact wpAnyM_firstN hi (Region.noSelect_spec h1) hQ h4 fuel listed a w (closed_of h6) h5 (Region.free_spec hi h2) (by simpa using h3) hy hS h
end
end Go.Proofs.YtfoidpcoiankoaaGreat
namespace Go.Proofs.YtfoidpcoiankoaaGreat
open Go.RowKit F256
noncomputable def lastI (p:Nat → Prop):Nat → Int
  | 0 => -1
  | k + 1 => @ite _ (p k) (Classical.propDecidable _) (k:Int) (lastI p k)
theorem lastI_skip {p:Nat → Prop} {k:Nat} (h:¬ p k):lastI p (k + 1) = lastI p k:=if_neg h
theorem lastI_put {p:Nat → Prop} {k:Nat} (h:p k):lastI p (k + 1) = (k:Int):=if_pos h
theorem lastI_cases (p:Nat → Prop):∀ k,lastI p k = -1 ∨ ∃ i:Nat,i < k ∧ lastI p k = (i:Int) ∧ p i
  | 0 => .inl rfl
  | k + 1 => by
    by_cases h:p k
    · exact .inr ⟨k,by omega,lastI_put h,h⟩
    · rw [lastI_skip h]
      rcases lastI_cases p k with e | ⟨i,h1,h2,h3⟩
      · exact .inl e
      · exact .inr ⟨i,by omega,h2,h3⟩
def itm (x:Nat → RecD) (nm:ByteArray) (i:Nat):Prop:=(x i).kind = 1 ∧ (x i).name = nm
theorem newF_at (x:Nat → RecD) (ce:Nat → List Value) (nm:ByteArray):∀ N,(lastI (itm x nm) N = -1 → newF x ce N (.string nm) = none) ∧ ∀ i:Nat,lastI (itm x nm) N = (i:Int) → newF x ce N (.string nm) = some (.agg (ce i).toArray)
  | 0 => ⟨fun _ => rfl,fun i h => by have h':(-1:Int) = (i:Int):=h;omega⟩
  | N + 1 => by
    have ih:=newF_at x ce nm N;unfold newF at ih ⊢
    by_cases hk:(x N).kind = 1
    · rw [lastF_put hk]
      by_cases hn:(x N).name = nm
      · rw [lastI_put (show itm x nm N from ⟨hk,hn⟩),hn,putF_same]
        exact ⟨fun h => by omega,fun i h => by
          obtain rfl:N = i:=by omega
          rfl⟩
      · rw [lastI_skip (fun h:itm x nm N => hn h.2),putF_other _ _ (fun h => hn (by cases h;rfl))]
        exact ih
    · rw [lastI_skip (fun h:itm x nm N => hk h.1),lastF_skip hk]
      exact ih
set_option maxHeartbeats 8000000 in
set_option maxRecDepth 20000 in
theorem l6Newest_any (v:Value) (n:Nat) (x:Nat → RecD) (nm:ByteArray) (hi:Nat) (w:World) (h:(layRec.slice 66).rd w hi (n,x) [v]) (hhi:hi ≤ w.heap.size) (hn:n ≤ 1048576) :
    Calls Tryz.prog 86 #[v,.string nm] w (fun e w' => e = .returned (.int .i64 (lastI (itm x nm) n)) ∧ Below w.heap.size w w'):=by
  obtain ⟨ao,cap,e,hmm,hc⟩:=h
  obtain rfl:v = .slice ao n cap:=by simpa using e
  have HC:Hid (n ≠ 0 → ∃ b off,ao = some ⟨b,off,none⟩ ∧ b < hi ∧ ∀ i,i < n → ∃ ce,layRec.rd w hi (x i) ce ∧ ∀ j,j < layRec.sz → w.cell? ⟨b,off + (i * layRec.sz + j),none⟩ = ce[j]?):=hc;clear e hmm hc
  go_enter Tryz.func86,Tryz.ntmps86
  go_wp2
  go_loopw [5,6] (fun a z wr => ∃ k:Nat,k ≤ n ∧ z = .int .i64 k ∧ a = .int .i64 (lastI (itm x nm) k) ∧ Below w.heap.size w wr) (fun _ z _ => n - (intOf z).toNat)
  case atStart => exact ⟨0,Nat.zero_le _,rfl,rfl,Below.refl _ _⟩
  case round =>
    obtain ⟨k,hk,rfl,rfl,hbl⟩:=hrel;have HB:Hid (Below w.heap.size w wr):=hbl;obtain ⟨at_,hat⟩:∃ a,a = lastI (itm x nm) k:=⟨_,rfl⟩;have HAT:Hid (at_ = lastI (itm x nm) k):=hat;rw [← hat];clear hat
    by_cases hlt:k < n
    · obtain ⟨b,off,rfl,hbh,hel⟩:=HC.out (by omega)
      obtain ⟨ce,hy,hcell⟩:=elem_rd (t:=66) hel hbl hhi hbh hlt;obtain ⟨ao6,cap6,ao7,cap7,ao8,cap8,rfl,-,-,-,-⟩:=Rec_rd hy;obtain ⟨r,hr⟩:∃ r,r = x k:=⟨_,rfl⟩;have HRR:Hid (r = x k):=hr;rw [← hr] at hcell
      have y0:wr.cell? ⟨b,off + k * 9,none⟩ = some (.int .i64 r.kind):=by have:=hcell 0 (by decide);exact this
      have y2:wr.cell? ⟨b,off + k * 9 + 2,none⟩ = some (.string r.name):=by have:=hcell 2 (by decide);exact this
      have i1:(0:Int) ≤ (k:Int):=by omega
      have i2:(k:Int) < (n:Int):=by omega
      clear hcell hel hy hr hbl
      by_cases c1:r.kind = 1
      · have d1:(r.kind == 1) = true:=by simp [c1]
        have HC1:Hid (r.kind = 1):=c1;clear c1
        by_cases c2:r.name = nm
        · have d2:(r.name.toList == nm.toList) = true:=by rw [beq_iff_eq,c2]
          have d3:decide (r.name.toList = nm.toList) = true:=decide_eq_true (by rw [c2])
          have d4:r.name.toList = nm.toList:=by rw [c2]
          have HC2:Hid (r.name = nm):=c2;clear c2;go_wp2
          go_roundw
          case rel => exact ⟨k + 1,by omega,by go_num,(by rw [lastI_put (show itm x nm k from ⟨by rw [← HRR.out];exact HC1.out,by rw [← HRR.out];exact HC2.out⟩)]),HB.out⟩
          case measure => simp [intOf];omega
        · have d2:(r.name.toList == nm.toList) = false:=by rw [beq_eq_false_iff_ne];exact fun h => c2 (toList_inj.1 h)
          have d3:decide (r.name.toList = nm.toList) = false:=decide_eq_false (fun h => c2 (toList_inj.1 h));have d4:¬ r.name.toList = nm.toList:=fun h => c2 (toList_inj.1 h);have HC2:Hid (¬ r.name = nm):=c2;clear c2;go_wp2
          go_roundw
          case rel => exact ⟨k + 1,by omega,by go_num,(by rw [lastI_skip (fun h:itm x nm k => HC2.out (by rw [HRR.out];exact h.2)),← HAT.out]),HB.out⟩
          case measure => simp [intOf];omega
      · have d1:(r.kind == 1) = false:=by simp [c1]
        have HC1:Hid (¬ r.kind = 1):=c1;clear c1;go_wp2
        go_roundw
        case rel => exact ⟨k + 1,by omega,by go_num,(by rw [lastI_skip (fun h:itm x nm k => HC1.out (by rw [HRR.out];exact h.1)),← HAT.out]),HB.out⟩
        case measure => simp [intOf];omega
    · obtain rfl:k = n:=by omega
      rw [HAT.out];go_wp2;go_ret;exact ⟨rfl,HB.out⟩
theorem layRec_one {w:World} {hi:Nat} {r:RecD} {cs:List Value} (h:layRec.rd w hi r cs):∀ v,v ∈ cs → v.oneCell' = true:=by
  obtain ⟨ao6,cap6,ao7,cap7,ao8,cap8,rfl,-⟩:=Rec_rd h;intro v hv
  simp only [List.mem_cons,List.not_mem_nil,or_false] at hv
  rcases hv with rfl | rfl | rfl | rfl | rfl | rfl | rfl | rfl | rfl <;> rfl
theorem info_IE:(Tryz.prog.info? 118).map (fun i => (i.zero.map (·.cells),i.size)) = some (some #[.int .i64 0,.int .i64 0,.string ⟨#[]⟩,.int .i64 0,.int .i64 0,.int .i64 0,.slice none 0 0,.slice none 0 0,.slice none 0 0],9):=by kernel_rfl
theorem zeroIE (u:World):(zeroValue 118).run Tryz.prog u = .ok (.agg #[.int .i64 0,.int .i64 0,.string ⟨#[]⟩,.int .i64 0,.int .i64 0,.int .i64 0,.slice none 0 0,.slice none 0 0,.slice none 0 0]) u:=by kernel_rfl
theorem rangeB {w:World} {b:Nat} {t:TypeId} {c:List Value} (h:Box w b c.toArray t):w.rangeAt b 0 c:=fun j v hv => by
  rw [Nat.zero_add,h.cell j]
  simp only [List.getElem?_toArray]
  exact hv
end Go.Proofs.YtfoidpcoiankoaaGreat
namespace Go.Proofs.YtfoidpcoiankoaaGreat
open Go.RowKit Go.Maps Go.Sort F256
abbrev nmL (r:RecD):List UInt8:=r.name.data.toList
def LiveP (x:Nat → RecD) (N i:Nat):Prop:=i < N ∧ (x i).kind = 1 ∧ ¬ (x i).length < 0 ∧ lastI (itm x (x i).name) N = (i:Int)
def Live (x:Nat → RecD) (N:Nat) (l:List Nat):Prop:=(∀ i,i ∈ l ↔ LiveP x N i) ∧ l.Pairwise (fun a b => nmL (x a) < nmL (x b))
theorem Live.nodup {x:Nat → RecD} {N:Nat} {l:List Nat} (h:Live x N l):l.Nodup:=h.2.imp (fun {a b} hlt e => by subst e;exact List.lt_irrefl _ hlt)
theorem Live.uniq {x:Nat → RecD} {N:Nat} {l m:List Nat} (h:Live x N l) (k:Live x N m):l = m:=by
  refine List.Perm.eq_of_pairwise (le:=fun a b => nmL (x a) < nmL (x b)) (fun a b _ _ h1 h2 => absurd (List.lt_trans h1 h2) (List.lt_irrefl _)) h.2 k.2 ?_;exact (List.perm_ext_iff_of_nodup h.nodup k.nodup).2 (fun i => by rw [h.1 i,k.1 i])
theorem Live.lt {x:Nat → RecD} {N:Nat} {l:List Nat} (h:Live x N l) {i:Nat} (hi:i ∈ l):i < N:=((h.1 i).1 hi).1
theorem lastI_ge {p:Nat → Prop}:∀ {k i:Nat},p i → i < k → (i:Int) ≤ lastI p k
  | 0,i,_,h => by omega
  | k + 1,i,hp,h => by
    by_cases hk:p k
    · rw [lastI_put hk];omega
    · rw [lastI_skip hk]
      by_cases e:i = k
      · subst e;exact absurd hp hk
      · exact lastI_ge hp (by omega)
theorem bytesOf (b:ByteArray):(⟨b.data.toList.toArray⟩:ByteArray) = b:=by cases b;simp
section
variable {w:World} {b n:Nat} {D:DataW Value}
theorem has_mem (hown:w.ownsMap Tryz.prog 9 heldR b n D) (s:List UInt8):Maps.has D (.string s) = true ↔ s ∈ strKeys D:=by
  obtain ⟨es,rfl,hko⟩:=hown.keysOf
  have hk:∀ p ∈ es,∃ y,p.1 = .string y:=fun p hp => by
    obtain ⟨v,hv⟩:=hko p hp;obtain ⟨y,_,hy,_⟩:=Maps.keyOf_str Tryz.underlying9 hv;exact ⟨y,hy⟩
  rw [Maps.has_eq,List.any_eq_true]
  show _ ↔ s ∈ es.map fun p => strOf p.1
  rw [List.mem_map]
  constructor
  · rintro ⟨p,hp',hs⟩
    obtain ⟨a,ha⟩:=hk p hp';rw [ha] at hs;exact ⟨p,hp',by rw [ha];simpa [Lit.sameKey,strOf] using hs⟩
  · rintro ⟨p,hp',rfl⟩
    obtain ⟨a,ha⟩:=hk p hp';exact ⟨p,hp',by rw [ha];simp [Lit.sameKey,strOf]⟩
theorem keys_nodup (hown:w.ownsMap Tryz.prog 9 heldR b n D):(strKeys D).Nodup:=by
  obtain ⟨es,hD,hpw,_⟩:=hown.entries keyS;obtain ⟨es',hD',hko⟩:=hown.keysOf
  obtain rfl:es = es':=by rw [hD] at hD';simpa using hD'
  subst hD
  show (es.map fun p => strOf p.1).Nodup
  refine List.pairwise_map.2 (hpw.imp_of_mem fun {p q} hp' hq' hne e => hne ?_);obtain ⟨v,hv⟩:=hko p hp';obtain ⟨a,_,ha,_⟩:=Maps.keyOf_str Tryz.underlying9 hv;obtain ⟨v',hv'⟩:=hko q hq';obtain ⟨c,_,hc,_⟩:=Maps.keyOf_str Tryz.underlying9 hv';rw [ha,hc] at e ⊢;exact congrArg _ e
structure Names (x:Nat → RecD) (N:Nat) (ns:List (List UInt8)):Prop where
  rise:ns.Pairwise (· < ·)
  at_:∀ s,s ∈ ns → s.length ≤ maxLen ∧ ∃ i:Nat,i < N ∧ lastI (itm x ⟨s.toArray⟩) N = (i:Int) ∧ itm x ⟨s.toArray⟩ i
  all:∀ i,i < N → (x i).kind = 1 → nmL (x i) ∈ ns
theorem names_ok {x:Nat → RecD} {ce:Nat → List Value} {N:Nat} (hown:w.ownsMap Tryz.prog 9 heldR b n D) (hf:∀ y l,keyOf Tryz.prog 9 y = some l → Maps.has D l = (newF x ce N y).isSome ∧ ∀ z,D.atKey l (.held z) = .held ((newF x ce N y).getD z)) (hnm:∀ i,i < N → (x i).name.size ≤ maxLen) {ss:List (List UInt8)} (hS:ss.Perm (strKeys D)):Names x N (ss.mergeSort (fun x y => decide (x ≤ y))):=by
  have tr:∀ a b c:List UInt8,leB a b = true → leB b c = true → leB a c = true:=fun a b c h1 h2 => by simp only [leB,decide_eq_true_eq] at *;exact List.le_trans h1 h2
  have tot:∀ a b:List UInt8,(leB a b || leB b a) = true:=fun a b => by simp only [leB,Bool.or_eq_true,decide_eq_true_eq];exact List.le_total a b
  have hp:=(List.mergeSort_perm ss (fun x y => decide (x ≤ y))).trans hS;have nd:(ss.mergeSort (fun x y => decide (x ≤ y))).Nodup:=hp.nodup_iff.2 (keys_nodup hown);have pw:=List.pairwise_mergeSort (le:=leB) tr tot ss;refine ⟨?_,fun s hs => ?_,fun i hi hk => ?_⟩
  · refine (pw.and nd).imp (fun {a c} h => ?_)
    obtain ⟨h1,h2⟩:=h
    simp only [leB,decide_eq_true_eq] at h1
    apply Classical.byContradiction
    intro hn;exact h2 (List.le_antisymm h1 (List.not_lt.1 hn))
  · have hm:s ∈ strKeys D:=hp.mem_iff.1 hs
    have hl:=strKeys_le hown Tryz.underlying9 s hm;refine ⟨hl,?_⟩;have hk:=WideMaps.keyOf_string_mk (P:=Tryz.prog) (k:=9) Tryz.underlying9 (s:=⟨s.toArray⟩) (by show s.toArray.size ≤ maxLen;simpa using hl)
    have e:(⟨s.toArray⟩:ByteArray).data.toList = s:=by simp
    rw [e] at hk;have h1:=(hf _ _ hk).1;rw [(has_mem hown s).2 hm] at h1
    rcases lastI_cases (itm x ⟨s.toArray⟩) N with e | ⟨i,q1,q2,q3⟩
    · rw [(newF_at x ce _ N).1 e] at h1
      cases h1
    · exact ⟨i,q1,q2,q3⟩
  · have hk1:=WideMaps.keyOf_string_mk (P:=Tryz.prog) (k:=9) Tryz.underlying9 (hnm i hi)
    have h1:=(hf _ _ hk1).1;have hge:=lastI_ge (p:=itm x (x i).name) ⟨hk,rfl⟩ hi
    rcases lastI_cases (itm x (x i).name) N with e | ⟨j,q1,q2,q3⟩
    · omega
    · rw [(newF_at x ce _ N).2 j q2] at h1
      exact hp.mem_iff.2 ((has_mem hown _).1 h1)
end
noncomputable def idx (x:Nat → RecD) (N:Nat) (s:List UInt8):Nat:=(lastI (itm x ⟨s.toArray⟩) N).toNat
noncomputable def lvL (x:Nat → RecD) (N:Nat) (ns:List (List UInt8)):List Nat:=(ns.map (idx x N)).filter (fun i => decide ((x i).length ≠ -1))
theorem Names.idx_is {x:Nat → RecD} {N:Nat} {ns:List (List UInt8)} (h:Names x N ns) {s:List UInt8} (hs:s ∈ ns):idx x N s < N ∧ lastI (itm x ⟨s.toArray⟩) N = (idx x N s:Int) ∧ (x (idx x N s)).kind = 1 ∧ (x (idx x N s)).name = ⟨s.toArray⟩:=by
  obtain ⟨_,i,h1,h2,h3⟩:=h.at_ s hs
  have e:idx x N s = i:=by unfold idx;rw [h2];rfl
  rw [e];exact ⟨h1,h2,h3⟩
theorem lv_live {x:Nat → RecD} {N:Nat} {ns:List (List UInt8)} (h:Names x N ns) (hk:∀ i,i < N → (x i).kind = 1 → ((x i).length < 0 ↔ (x i).length = -1)):Live x N (lvL x N ns):=by
  constructor
  · intro i
    unfold lvL;rw [List.mem_filter,List.mem_map]
    constructor
    · rintro ⟨⟨s,hs,rfl⟩,hl⟩
      obtain ⟨h1,h2,h3,h4⟩:=h.idx_is hs;refine ⟨h1,h3,fun c => ?_,by rw [h4];exact h2⟩;rw [(hk _ h1 h3).1 c] at hl
      simp at hl
    · rintro ⟨h1,h2,h3,h4⟩
      refine ⟨⟨nmL (x i),h.all i h1 h2,?_⟩,by
        rw [decide_eq_true_eq]
        exact fun c => h3 ((hk i h1 h2).2 c)⟩
      unfold idx;rw [bytesOf,h4];rfl
  · unfold lvL
    refine List.Pairwise.filter _ (List.pairwise_map.2 (h.rise.imp_of_mem (fun {a c} ha hc hlt => ?_)));have ea:=(h.idx_is ha).2.2.2;have ec:=(h.idx_is hc).2.2.2
    show (x (idx x N a)).name.data.toList < (x (idx x N c)).name.data.toList
    rw [ea,ec]
    simpa using hlt
theorem lvL_snoc (x:Nat → RecD) (N:Nat) (ns:List (List UInt8)) (s:List UInt8):lvL x N (ns ++ [s]) = lvL x N ns ++ (if (x (idx x N s)).length = -1 then [] else [idx x N s]):=by
  unfold lvL;rw [List.map_append,List.filter_append]
  congr 1
  by_cases c:(x (idx x N s)).length = -1
  · simp [c]
  · simp [c]
theorem lvL_len (x:Nat → RecD) (N:Nat) (ns:List (List UInt8)):(lvL x N ns).length ≤ ns.length:=by
  unfold lvL;have:=List.length_filter_le (fun i => decide ((x i).length ≠ -1)) (ns.map (idx x N))
  simpa using this
end Go.Proofs.YtfoidpcoiankoaaGreat
namespace Go.Proofs.YtfoidpcoiankoaaGreat.Sym
def Re (a b:Nat) (p q:Nat → Nat):Prop:=∃ s t:Nat → Nat,(∀ i,q i = p (s i)) ∧ (∀ i,t (s i) = i) ∧ (∀ i,s (t i) = i) ∧ ∀ i,(i < a ∨ b ≤ i) → s i = i
theorem Re.refl (a b:Nat) (p:Nat → Nat):Re a b p p:=⟨id,id,fun _ => rfl,fun _ => rfl,fun _ => rfl,fun _ _ => rfl⟩
theorem Re.trans {a b:Nat} {p q r:Nat → Nat} (h:Re a b p q) (k:Re a b q r):Re a b p r:=by
  obtain ⟨s,t,h1,h2,h3,h4⟩:=h;obtain ⟨s',t',k1,k2,k3,k4⟩:=k;refine ⟨fun i => s (s' i),fun i => t' (t i),fun i => by rw [k1,h1],fun i => ?_,fun i => ?_,fun i hi => ?_⟩
  · show t' (t (s (s' i))) = i
    rw [h2,k2]
  · show s (s' (t' (t i))) = i
    rw [k3,h3]
  · show s (s' i) = i
    rw [k4 i hi,h4 i hi]
theorem Re.mono {a b a' b':Nat} {p q:Nat → Nat} (h:Re a b p q) (ha:a' ≤ a) (hb:b ≤ b'):Re a' b' p q:=by
  obtain ⟨s,t,h1,h2,h3,h4⟩:=h;exact ⟨s,t,h1,h2,h3,fun i hi => h4 i (by omega)⟩
theorem Re.out {a b:Nat} {p q:Nat → Nat} (h:Re a b p q) {i:Nat} (hi:i < a ∨ b ≤ i):q i = p i:=by
  obtain ⟨s,t,h1,h2,h3,h4⟩:=h;rw [h1,h4 i hi]
theorem Re.from {a b:Nat} {p q:Nat → Nat} (h:Re a b p q) {i:Nat} (hi:a ≤ i ∧ i < b):∃ j,(a ≤ j ∧ j < b) ∧ q i = p j:=by
  obtain ⟨s,t,h1,h2,h3,h4⟩:=h;refine ⟨s i,?_,h1 i⟩
  by_cases c:a ≤ s i ∧ s i < b
  · exact c
  · have:=h4 (s i) (by omega)
    have e:s i = i:=by rw [← h2 (s i),this,h2]
    omega
def swp (i j:Nat):Nat → Nat:=fun k => if k = i then j else if k = j then i else k
theorem swp_swp (i j k:Nat):swp i j (swp i j k) = k:=by unfold swp;split <;> split <;> simp_all <;> split <;> simp_all
theorem Re.swaps {a b i j:Nat} (p:Nat → Nat) (hi:a ≤ i ∧ i < b) (hj:a ≤ j ∧ j < b):Re a b p (fun k => p (swp i j k)) :=
  ⟨swp i j,swp i j,fun _ => rfl,swp_swp i j,swp_swp i j,fun k hk => by unfold swp;rw [if_neg (by omega),if_neg (by omega)]⟩
def swr (a b n:Nat):Nat → Nat:=fun k => if a ≤ k ∧ k < a + n then b + (k - a) else if b ≤ k ∧ k < b + n then a + (k - b) else k
theorem swr_zero (a b k:Nat):swr a b 0 k = k:=by unfold swr;rw [if_neg (by omega),if_neg (by omega)]
theorem swr_succ {a b n:Nat} (h:a + (n + 1) ≤ b) (k:Nat):swr a b n (swp (a + n) (b + n) k) = swr a b (n + 1) k:=by
  unfold swr swp
  by_cases c1:k = a + n
  · rw [if_pos c1,if_neg (by omega),if_neg (by omega),if_pos (by omega)];omega
  · rw [if_neg c1]
    by_cases c2:k = b + n
    · rw [if_pos c2,if_neg (by omega),if_neg (by omega),if_neg (by omega),if_pos (by omega)];omega
    · rw [if_neg c2]
      by_cases c3:a ≤ k ∧ k < a + n
      · rw [if_pos c3,if_pos (by omega)]
      · rw [if_neg c3,if_neg (show ¬ (a ≤ k ∧ k < a + (n + 1)) by omega)]
        by_cases c4:b ≤ k ∧ k < b + n
        · rw [if_pos c4,if_pos (by omega)]
        · rw [if_neg c4,if_neg (by omega)]
def rot (lo m hi:Nat):Nat → Nat:=fun k => if k < lo ∨ hi ≤ k then k else if k < lo + (hi - m) then m + (k - lo) else k - (hi - m)
theorem rot_more {m i j:Nat} (hij:j < i) (him:i ≤ m) (k:Nat):swr (m - i) m j (rot (m - (i - j)) m (m + j) k) = rot (m - i) m (m + j) k:=by
  unfold rot
  by_cases c1:k < m - i ∨ m + j ≤ k
  · rw [if_pos (show k < m - i ∨ m + j ≤ k from c1),if_pos (by omega)]
    unfold swr;rw [if_neg (by omega),if_neg (by omega)]
  · rw [if_neg c1]
    by_cases c2:k < m - i + (m + j - m)
    · rw [if_pos c2,if_pos (by omega)]
      unfold swr;rw [if_pos (by omega)]
    · rw [if_neg c2,if_neg (by omega)]
      by_cases c3:k < m - (i - j) + (m + j - m)
      · rw [if_pos c3]
        unfold swr;rw [if_neg (by omega),if_pos (by omega)];omega
      · rw [if_neg c3]
        unfold swr;rw [if_neg (by omega),if_neg (by omega)]
theorem rot_less {m i j:Nat} (hij:i < j) (him:i ≤ m) (k:Nat):swr (m - i) (m + j - i) i (rot (m - i) m (m + (j - i)) k) = rot (m - i) m (m + j) k:=by
  unfold rot
  by_cases c1:k < m - i ∨ m + j ≤ k
  · rw [if_pos (show k < m - i ∨ m + j ≤ k from c1),if_pos (by omega)]
    unfold swr;rw [if_neg (by omega),if_neg (by omega)]
  · rw [if_neg c1]
    by_cases c4:m + (j - i) ≤ k
    · rw [if_pos (by omega),if_neg (by omega)]
      unfold swr;rw [if_neg (by omega),if_pos (by omega)];omega
    · rw [if_neg (by omega)]
      by_cases c2:k < m - i + (m + (j - i) - m)
      · rw [if_pos c2,if_pos (by omega)]
        unfold swr;rw [if_neg (by omega),if_neg (by omega)]
      · rw [if_neg c2,if_pos (by omega)]
        unfold swr;rw [if_pos (by omega)];omega
theorem rot_same {m i:Nat} (him:i ≤ m) (k:Nat):swr (m - i) m i k = rot (m - i) m (m + i) k:=by
  unfold rot swr
  by_cases c1:k < m - i ∨ m + i ≤ k
  · rw [if_pos c1,if_neg (by omega),if_neg (by omega)]
  · rw [if_neg c1]
    by_cases c2:k < m - i + (m + i - m)
    · rw [if_pos c2,if_pos (by omega)]
    · rw [if_neg c2,if_neg (by omega),if_pos (by omega)];omega
theorem rot_back {lo m hi:Nat} (h1:lo ≤ m) (h2:m ≤ hi) (k:Nat):rot lo (lo + (hi - m)) hi (rot lo m hi k) = k:=by
  unfold rot
  by_cases c1:k < lo ∨ hi ≤ k
  · rw [if_pos c1,if_pos c1]
  · rw [if_neg c1]
    by_cases c2:k < lo + (hi - m)
    · rw [if_pos c2,if_neg (by omega),if_neg (by omega)];omega
    · rw [if_neg c2,if_neg (by omega),if_pos (by omega)];omega
theorem Re.rots {lo m hi:Nat} (p:Nat → Nat) (h1:lo ≤ m) (h2:m ≤ hi):Re lo hi p (fun k => p (rot lo m hi k)) :=
  ⟨rot lo m hi,rot lo (lo + (hi - m)) hi,fun _ => rfl,rot_back h1 h2,fun k => by
    have:=rot_back (lo:=lo) (m:=lo + (hi - m)) (hi:=hi) (by omega) (by omega) k
    rwa [show lo + (hi - (lo + (hi - m))) = m by omega] at this,fun k hk => by unfold rot;rw [if_pos hk]⟩
structure Ord (lt:Nat → Nat → Prop):Prop where
  trans:∀ {i j k},lt i j → lt j k → lt i k
  irr:∀ i,¬ lt i i
def Srt (lt:Nat → Nat → Prop) (p:Nat → Nat) (a b:Nat):Prop:=∀ i j,a ≤ i → i < j → j < b → lt (p i) (p j)
theorem Srt.sub {lt:Nat → Nat → Prop} {p:Nat → Nat} {a b a' b':Nat} (h:Srt lt p a b) (h1:a ≤ a') (h2:b' ≤ b):Srt lt p a' b':=fun i j h3 h4 h5 => h i j (by omega) h4 (by omega)
theorem Srt.congr {lt:Nat → Nat → Prop} {p q:Nat → Nat} {a b:Nat} (h:Srt lt p a b) (e:∀ i,a ≤ i → i < b → q i = p i):Srt lt q a b:=fun i j h3 h4 h5 => by
  rw [e i h3 (by omega),e j (by omega) h5];exact h i j h3 h4 h5
theorem Srt.join {lt:Nat → Nat → Prop} {p:Nat → Nat} {a m b:Nat} (h1:Srt lt p a m) (h2:Srt lt p m b) (h:∀ i j,a ≤ i → i < m → m ≤ j → j < b → lt (p i) (p j)):Srt lt p a b:=fun i j h3 h4 h5 => by
  by_cases c1:j < m
  · exact h1 i j h3 h4 c1
  · by_cases c2:i < m
    · exact h i j h3 c2 (by omega) h5
    · exact h2 i j (by omega) h4 h5
theorem split {lt:Nat → Nat → Prop} (O:Ord lt) {p:Nat → Nat} {a m b s e mid:Nat} (h1:Srt lt p a m) (h2:Srt lt p m b) (hm:mid + m = s + e) (ha:a ≤ s) (sm:s ≤ m) (me:m ≤ e) (eb:e ≤ b)
    (q1:s ≠ a → e ≠ b → lt (p (s - 1)) (p e)) (q2:s ≠ m → e ≠ m → lt (p (e - 1)) (p s)) :
    Srt lt (fun k => p (rot s m e k)) a s ∧ Srt lt (fun k => p (rot s m e k)) s mid ∧ Srt lt (fun k => p (rot s m e k)) mid e ∧ Srt lt (fun k => p (rot s m e k)) e b ∧
      ∀ i j,a ≤ i → i < mid → mid ≤ j → j < b → lt (p (rot s m e i)) (p (rot s m e j)):=by
  have r1:∀ i,i < s → rot s m e i = i:=fun i hi => by unfold rot;rw [if_pos (by omega)]
  have r2:∀ i,s ≤ i → i < mid → rot s m e i = m + (i - s):=fun i h3 h4 => by unfold rot;rw [if_neg (by omega),if_pos (by omega)]
  have r3:∀ i,mid ≤ i → i < e → rot s m e i = s + (i - mid):=fun i h3 h4 => by unfold rot;rw [if_neg (by omega),if_neg (by omega)];omega
  have r4:∀ i,e ≤ i → rot s m e i = i:=fun i hi => by unfold rot;rw [if_pos (by omega)]
  refine ⟨fun i j x y z => ?_,fun i j x y z => ?_,fun i j x y z => ?_,fun i j x y z => ?_,fun i j x y z u => ?_⟩
  · show lt (p (rot s m e i)) (p (rot s m e j))
    rw [r1 i (by omega),r1 j z];exact h1 i j x y (by omega)
  · show lt (p (rot s m e i)) (p (rot s m e j))
    rw [r2 i x (by omega),r2 j (by omega) z];exact h2 _ _ (by omega) (by omega) (by omega)
  · show lt (p (rot s m e i)) (p (rot s m e j))
    rw [r3 i x (by omega),r3 j (by omega) z];exact h1 _ _ (by omega) (by omega) (by omega)
  · show lt (p (rot s m e i)) (p (rot s m e j))
    rw [r4 i x,r4 j (by omega)];exact h2 _ _ (by omega) (by omega) (by omega)
  · have le1:∀ {i j},a ≤ i → i ≤ j → j < m → p i = p j ∨ lt (p i) (p j):=fun {i j} x y z => by
      by_cases c:i = j
      · exact .inl (by rw [c])
      · exact .inr (h1 i j x (by omega) z)
    have le2:∀ {i j},m ≤ i → i ≤ j → j < b → p i = p j ∨ lt (p i) (p j):=fun {i j} x y z => by
      by_cases c:i = j
      · exact .inl (by rw [c])
      · exact .inr (h2 i j x (by omega) z)
    have tl:∀ {i j k},(i = j ∨ lt i j) → lt j k → lt i k:=fun {i j k} x y => by
      rcases x with rfl | x
      · exact y
      · exact O.trans x y
    have tr:∀ {i j k},lt i j → (j = k ∨ lt j k) → lt i k:=fun {i j k} x y => by
      rcases y with rfl | y
      · exact x
      · exact O.trans x y
    by_cases c1:i < s
    · rw [r1 i c1]
      by_cases c2:j < e
      · rw [r3 j z c2]
        exact h1 _ _ x (by omega) (by omega)
      · rw [r4 j (by omega)]
        have q:=q1 (by omega) (by omega);exact tr (tl (le1 x (show i ≤ s - 1 by omega) (by omega)) q) (le2 me (by omega) u)
    · rw [r2 i (by omega) y]
      by_cases c2:j < e
      · rw [r3 j z c2]
        have q:=q2 (by omega) (by omega);exact tr (tl (le2 (by omega) (show m + (i - s) ≤ e - 1 by omega) (by omega)) q) (le1 ha (by omega) (by omega))
      · rw [r4 j (by omega)]
        exact h2 _ _ (by omega) (by omega) u
theorem halves {lt:Nat → Nat → Prop} {p q r:Nat → Nat} {a mid b:Nat} (am:a ≤ mid) (mb:mid ≤ b) (h:∀ i j,a ≤ i → i < mid → mid ≤ j → j < b → lt (p i) (p j)) (k1:Re a mid p q) (k2:Re mid b q r) (s1:Srt lt q a mid) (s2:Srt lt r mid b):Srt lt r a b ∧ Re a b p r:=by
  refine ⟨Srt.join (m:=mid) (s1.congr fun i x y => k2.out (.inl y)) s2 (fun i j x y z u => ?_),(k1.mono (Nat.le_refl _) mb).trans (k2.mono am (Nat.le_refl _))⟩
  obtain ⟨i',hi,e1⟩:=k1.from ⟨x,y⟩
  obtain ⟨j',hj,e2⟩:=k2.from ⟨z,u⟩
  rw [k2.out (.inl y),e1,e2,k1.out (.inr hj.1)];exact h i' j' hi.1 hi.2 hj.1 hj.2
end Go.Proofs.YtfoidpcoiankoaaGreat.Sym
namespace Go.Proofs.YtfoidpcoiankoaaGreat
open Go.RowKit F256
def RdOne {α:Type} (E:Lay α):Prop:=∀ (w:World) (hi:Nat) (a:α) (cs:List Value),E.rd w hi a cs → ∀ u,u ∈ cs → u.oneCell' = true
theorem rdOne_plain {α:Type} (enc:α → Value) (ok:α → Prop) (one:∀ a,(enc a).oneCell' = true):RdOne (Lay.plain enc ok one):=fun w hi a cs h u hu => by
  obtain ⟨rfl,_⟩:=h
  simp at hu
  subst hu;exact one a
theorem rdOne_two {α β:Type} {A:Lay α} {B:Lay β} (ha:RdOne A) (hb:RdOne B):RdOne (A.two B):=fun w hi p cs h u hu => by
  obtain ⟨c,d,rfl,h1,h2⟩:=h
  rcases List.mem_append.1 hu with h | h
  · exact ha _ _ _ _ h1 u h
  · exact hb _ _ _ _ h2 u h
theorem rdOne_as {α β:Type} {A:Lay α} (ha:RdOne A) (f:β → α):RdOne (A.as f):=fun w hi p cs h u hu => ha w hi (f p) cs h u hu
theorem rdOne_bytes:RdOne layBytes:=fun w hi p cs h u hu => by
  obtain ⟨v,rfl,⟨ao,cap,rfl,_⟩,_⟩:=h
  simp at hu
  subst hu;rfl
theorem rdOne_ints:RdOne layInts:=fun w hi p cs h u hu => by
  obtain ⟨v,rfl,⟨⟨ao,cap,rfl,_⟩,_⟩,_⟩:=h
  simp at hu
  subst hu;rfl
theorem rdOne_rec:RdOne layRec:=rdOne_as (rdOne_two (rdOne_plain _ _ _) (rdOne_two (rdOne_plain _ _ _) (rdOne_two (rdOne_plain _ _ _) (rdOne_two (rdOne_plain _ _ _) (rdOne_two (rdOne_plain _ _ _) (rdOne_two (rdOne_plain _ _ _) (rdOne_two rdOne_ints (rdOne_two rdOne_bytes rdOne_bytes)))))))) _
def cat2 {β:Type} (x:Nat → β) (n:Nat) (y:Nat → β):Nat → β:=fun i => if i < n then x i else y (i - n)
theorem cat2_lt {β:Type} (x:Nat → β) {n i:Nat} (y:Nat → β) (h:i < n):cat2 x n y i = x i:=if_pos h
theorem cat2_ge {β:Type} (x:Nat → β) (n:Nat) (y:Nat → β) (i:Nat):cat2 x n y (n + i) = y i:=by
  unfold cat2;rw [if_neg (by omega)]
  congr 1
  omega
theorem catN_cat2 {β:Type} (x:Nat → List β) (n:Nat) (y:Nat → List β):∀ m,catN (n + m) (cat2 x n y) = catN n x ++ catN m y
  | 0 => by rw [catN_zero,List.append_nil];exact catN_congr (fun i hi => cat2_lt x y hi)
  | m + 1 => by rw [← Nat.add_assoc,catN_succ,catN_cat2 x n y m,catN_succ,cat2_ge,List.append_assoc]
structure View {α:Type} (E:Lay α) (t:TypeId) (w:World) (lo hi:Nat) (v:Value) (n:Nat) (x:Nat → α) (ce:Nat → List Value):Prop where
  row:w.ownsRow lo t E.sz v n (catN n ce)
  each:∀ i,i < n → E.rd w hi (x i) (ce i)
section
variable {α:Type} {E:Lay α} {t:TypeId} {w w':World} {lo hi n:Nat} {v:Value} {x:Nat → α} {ce:Nat → List Value}
theorem View.nil (x:Nat → α) (ce:Nat → List Value) (w:World) (lo hi:Nat):View E t w lo hi (.slice none 0 0) 0 x ce:=⟨World.ownsRow_nil w lo t E.sz,fun i hi => by omega⟩
theorem View.lit0 (x:Nat → α) (ce:Nat → List Value) (w:World) (hi:Nat):View E t (w.alloc (.cells #[] t)) w.heap.size hi (.slice (some ⟨w.heap.size,0,none⟩) 0 0) 0 x ce:=by
  have h:=World.ownsRow_lit (base:=w.heap.size) (e:=t) (size:=E.sz) w #[] 0 (Nat.le_refl _) (Nat.zero_le _) (by simp);exact ⟨by simpa [catN_zero] using h,fun i hi => by omega⟩
theorem View.form (h:View E t w lo hi v n x ce):∃ ao cap,v = .slice ao n cap:=by
  rcases h.row.2 with ⟨hv,hn⟩ | ⟨g,cap,cur,rfl,_⟩
  · exact ⟨none,0,by rw [hv,hn]⟩
  · exact ⟨_,_,rfl⟩
theorem View.form0 (h:View E t w lo hi v n x ce) (h0:n ≠ 0):∃ g cap,v = .slice (some ⟨g,0,none⟩) n cap:=by
  rcases h.row.2 with ⟨hv,hn⟩ | ⟨g,cap,cur,rfl,_⟩
  · exact absurd hn h0
  · exact ⟨_,_,rfl⟩
theorem View.len (h:View E t w lo hi v n x ce):n ≤ maxLen:=by
  rcases h.row.2 with ⟨hv,hn⟩ | ⟨g,cap,cur,rfl,hbg,hgg,hnc,hcm,rest⟩
  · omega
  · omega
theorem View.kept (h:View E t w lo hi v n x ce) (hk:∀ b,v.ownBlock = some b → w'.heap[b]? = w.heap[b]?) (hb:Below hi w w'):View E t w' lo hi v n x ce:=by
  refine ⟨⟨h.row.1,?_⟩,fun i hi => E.rd_below (h.each i hi) hb (Nat.le_refl _)⟩
  rcases h.row.2 with hn | ⟨g,cap,cur,rfl,hbg,hgg,rest⟩
  · exact .inl hn
  · exact .inr ⟨g,cap,cur,rfl,hbg,(hk g (by simp [Value.ownBlock])).trans hgg,rest⟩
theorem View.below (h:View E t w lo hi v n x ce) (hb:Below w.heap.size w w') (hh:hi ≤ w.heap.size):View E t w' lo hi v n x ce :=
  h.kept (fun b hv => hb.block b (h.row.lt b hv).2) (hb.mono hh)
theorem View.congr {y:Nat → α} (h:View E t w lo hi v n x ce) (hy:∀ i,i < n → x i = y i):View E t w lo hi v n y ce:=⟨h.row,fun i hi => by rw [← hy i hi];exact h.each i hi⟩
theorem View.lens (h:View E t w lo hi v n x ce):∀ i,i < n → (ce i).length = E.sz:=fun i hi => E.rd_len (h.each i hi)
theorem View.cell {g cap:Nat} (h:View E t w lo hi (.slice (some ⟨g,0,none⟩) n cap) n x ce) {i j:Nat} (hi:i < n) (hj:j < E.sz):w.cell? ⟨g,i * E.sz + j,none⟩ = (ce i)[j]?:=by
  rw [h.row.cellAt _ (mul_lt hi hj),catN_get h.lens hi hj]
theorem View.rd (h:View E t w lo hi v n x ce) (hh:hi ≤ w.heap.size):(E.slice t).rd w w.heap.size (n,x) [v]:=by
  have hlt:=fun b hb => (h.row.lt b hb).2;obtain ⟨ao,cap,rfl⟩:=h.form;refine ⟨ao,cap,rfl,h.len,fun h0 => ?_⟩;obtain ⟨g,cap',e⟩:=h.form0 h0
  cases e
  refine ⟨g,0,rfl,hlt g (by simp [Value.ownBlock]),fun i hi => ⟨ce i,E.rd_mono (h.each i hi) hh,fun j hj => ?_⟩⟩;rw [Nat.zero_add];exact h.cell hi hj
def Src (E:Lay α) (w:World) (hi:Nat) (ao:Option Addr) (m:Nat) (y:Nat → α) (cy:Nat → List Value):Prop :=
  (m ≠ 0 → ∃ b off,ao = some ⟨b,off,none⟩ ∧ ∀ j,j < m → ∀ k,k < E.sz → w.cell? ⟨b,off + (j * E.sz + k),none⟩ = (cy j)[k]?) ∧ ∀ j,j < m → E.rd w hi (y j) (cy j)
theorem src_one {b:Nat} {y:α} {cs:List Value} (hc:∀ k,k < E.sz → w.cell? ⟨b,k,none⟩ = cs[k]?) (hy:E.rd w hi y cs):Src E w hi (some ⟨b,0,none⟩) 1 (fun _ => y) (fun _ => cs) :=
  ⟨fun _ => ⟨b,0,rfl,fun j hj k hk => by
    obtain rfl:j = 0:=by omega
    rw [← hc k hk]
    congr 2
    omega⟩,fun _ _ => hy⟩
theorem add_oo (b o j:Nat):(⟨b,o,none⟩:Addr).add j = ⟨b,o + j,none⟩:=by unfold Addr.add;split <;> simp_all
end
theorem run_appendV {α:Type} {E:Lay α} {T e:TypeId} {by_:Nat} {zs:List Value} (I:ElInfo E T e by_ zs) (R1:RdOne E) (ty:TypeId) {W:World} {lo hi n:Nat} {v:Value} {x:Nat → α} {ce:Nat → List Value} (h:View E e W lo hi v n x ce)
    {ao:Option Addr} {m:Nat} (c:Nat) {y:Nat → α} {cy:Nat → List Value} (hs:Src E W hi ao m y cy) (hlo:lo ≤ W.heap.size) (hhi:hi ≤ lo) (hn:n + m ≤ 10000000) (hc0:ao = none → c = 0 ∨ m = 0) :
    ∃ v' w',(Builtin.append_ #[T,T] ty #[v,.slice ao m c]).run Tryz.prog W = .ok v' w' ∧ View E e w' lo hi v' (n + m) (cat2 x n y) (cat2 ce n cy) ∧ W.grownBy w' v.ownBlock ∧ Below lo W w':=by
  obtain ⟨hz,hzs,hu,hinf,few⟩:=I
  obtain ⟨i0,hi0⟩:∃ i0,Tryz.prog.info? e = some i0:=by
    cases h:Tryz.prog.info? e with
    | none => rw [h] at hinf;cases hinf
    | some i0 => exact ⟨i0,rfl⟩
  rw [hi0] at hinf
  simp only [Option.map_some,Option.some.injEq,Prod.mk.injEq] at hinf
  obtain ⟨h1,h2,h3⟩:=hinf
  obtain ⟨z,hz0,hzc⟩:∃ z,i0.zero = some z ∧ z.cells = zs.toArray:=by
    cases h:i0.zero with
    | none => rw [h] at h1;cases h1
    | some z => rw [h] at h1;exact ⟨z,rfl,by simpa using h1⟩
  obtain ⟨hcell,hrd⟩:=hs;have hlen:(catN m cy).length = m * E.sz:=catN_len (fun j hj => E.rd_len (hrd j hj))
  have big:∀ ad,ao = some ad → (∀ j u,(catN m cy)[j]? = some u → W.cell? (ad.add j) = some u) → ∃ v' w',(Builtin.append_ #[T,T] ty #[v,.slice ao m c]).run Tryz.prog W = .ok v' w' ∧ View E e w' lo hi v' (n + m) (cat2 x n y) (cat2 ce n cy) ∧ W.grownBy w' v.ownBlock ∧ Below lo W w':=fun ad ha hc => by
    subst ha
    obtain ⟨v',w',hr,r1,r2,r3,r4⟩:=run_append_own_at (P:=Tryz.prog) W lo T ty e i0 z E.sz by_ hu hi0 hz0 h2 h3 (by rw [hzc];simpa using hzs) hz v n (catN n ce) h.row ad m c (catN m cy) hlen hc
      (fun u hu => by
        obtain ⟨i,hi,hm⟩:=mem_catN.1 hu
        exact R1 _ _ _ _ (hrd i hi) u hm) (by unfold maxLen;omega) (by
        have:(n + m) * by_ ≤ 10000000 * 1000:=Nat.mul_le_mul hn few
        omega) hlo
    have hb:Below lo W w':=(Below.refl _ _).grown r2 hlo (fun k hk => (h.row.lt k hk).1);refine ⟨v',w',hr,⟨by rw [catN_cat2];exact r1,fun i hi => ?_⟩,r2,hb⟩
    by_cases c1:i < n
    · rw [cat2_lt x y c1,cat2_lt ce cy c1]
      exact E.rd_below (h.each i c1) hb hhi
    · obtain ⟨k,rfl⟩:∃ k,i = n + k:=⟨i - n,by omega⟩
      rw [cat2_ge,cat2_ge];exact E.rd_below (hrd k (by omega)) hb hhi
  by_cases hm:m = 0
  · subst hm
    cases ao with
    | some ad => exact big ad rfl (fun j u hj => by rw [catN_zero] at hj;simp at hj)
    | none =>
      refine ⟨v,W,run_append_none' W lo T ty e i0 E.sz hu hi0 v n c _ h.row,⟨by rw [catN_cat2,catN_zero,List.append_nil];exact h.row,fun i hi => ?_⟩,⟨rfl,rfl,rfl,Nat.le_refl _,fun _ _ _ => rfl⟩,Below.refl _ _⟩
      have hi':i < n:=by omega
      rw [cat2_lt x y hi',cat2_lt ce cy hi'];exact h.each i hi'
  · obtain ⟨b,off,rfl,hcc⟩:=hcell hm
    refine big _ rfl (fun j u hj => ?_)
    have hj':j < m * E.sz:=by rw [← hlen];exact (List.getElem?_eq_some_iff.1 hj).1
    have e1:j / E.sz < m:=Nat.div_lt_of_lt_mul (by rw [Nat.mul_comm];exact hj');have e2:j % E.sz < E.sz:=Nat.mod_lt _ hz
    have e3:j / E.sz * E.sz + j % E.sz = j:=by rw [Nat.mul_comm];exact Nat.div_add_mod j E.sz
    rw [add_oo,← e3,hcc _ e1 _ e2,← catN_get (fun j hj => E.rd_len (hrd j hj)) e1 e2,e3];exact hj
end Go.Proofs.YtfoidpcoiankoaaGreat
namespace Go.Proofs.YtfoidpcoiankoaaGreat
open Go.RowKit F256
def spl (xs:List Value):Nat → List Value → List Value
  | _,[] => xs
  | o,v :: r => spl (xs.set o v) (o + 1) r
theorem spl_get (cs:List Value):∀ (xs:List Value) (o j:Nat),o + cs.length ≤ xs.length → (spl xs o cs)[j]? = if o ≤ j ∧ j < o + cs.length then cs[j - o]? else xs[j]?:=by
  induction cs with
  | nil => intro xs o j h;rw [if_neg (by simp)];rfl
  | cons v r ih =>
    intro xs o j h
    simp only [List.length_cons] at h
    show (spl (xs.set o v) (o + 1) r)[j]? = _
    rw [ih (xs.set o v) (o + 1) j (by rw [List.length_set];omega)]
    by_cases c1:o = j
    · subst c1
      rw [if_neg (by omega),if_pos (by simp),List.getElem?_set]
      simp
      omega
    · by_cases c2:o + 1 ≤ j ∧ j < o + 1 + r.length
      · rw [if_pos c2,if_pos (by simp;omega)]
        obtain ⟨i,rfl⟩:∃ i,j = o + 1 + i:=⟨j - (o + 1),by omega⟩;rw [show o + 1 + i - (o + 1) = i by omega,show o + 1 + i - o = i + 1 by omega]
        simp
      · rw [if_neg c2,if_neg (by simp;omega),List.getElem?_set,if_neg c1]
theorem catN_upd {n s i:Nat} {ce:Nat → List Value} {cs:List Value} (hs:0 < s) (hl:∀ k,k < n → (ce k).length = s) (hc:cs.length = s) (hi:i < n):spl (catN n ce) (i * s) cs = catN n (upd ce i cs):=by
  have hl':∀ k,k < n → (upd ce i cs k).length = s:=fun k hk => by
    by_cases c:k = i
    · subst c;rw [upd_at];exact hc
    · rw [upd_ne ce cs c];exact hl k hk
  have hb:i * s + s ≤ n * s:=by
    have:=Nat.mul_le_mul_right s (show i + 1 ≤ n from hi);rw [Nat.succ_mul] at this;exact this
  apply List.ext_getElem?
  intro j;rw [spl_get _ _ _ _ (by rw [catN_len hl,hc];exact hb)]
  by_cases hj:j < n * s
  · have e3:j / s * s + j % s = j:=by rw [Nat.mul_comm];exact Nat.div_add_mod j s
    have e1:j / s < n:=Nat.div_lt_of_lt_mul (by rw [Nat.mul_comm];exact hj);have e2:j % s < s:=Nat.mod_lt _ hs;have g1:=catN_get hl e1 e2;have g2:=catN_get hl' e1 e2;rw [e3] at g1 g2;rw [g1,g2]
    by_cases c:j / s = i
    · have h5:i * s ≤ j ∧ j < i * s + cs.length:=by rw [← c,hc];omega
      rw [if_pos h5,c,upd_at]
      congr 1
      rw [← c];omega
    · rw [upd_ne ce cs c,if_neg]
      rw [hc];intro hh
      apply c
      have:=Nat.div_eq_of_lt_le (m:=j) (n:=s) (k:=i) (by rw [Nat.mul_comm] at *;omega) (by rw [Nat.succ_mul];omega);exact this
  · rw [if_neg (by rw [hc];omega),List.getElem?_eq_none (l:=catN n ce) (by rw [catN_len hl];omega),List.getElem?_eq_none (l:=catN n (upd ce i cs)) (by rw [catN_len hl'];omega)]
theorem row_setCells {lo:Nat} {t:TypeId} {s g cap n:Nat} (cs:List Value):∀ (w:World) (xs:List Value) (o:Nat),w.ownsRow lo t s (.slice (some ⟨g,0,none⟩) n cap) n xs → (w.setCells g o cs).ownsRow lo t s (.slice (some ⟨g,0,none⟩) n cap) n (spl xs o cs):=by
  induction cs with
  | nil => intro w xs o h;exact h
  | cons v r ih => intro w xs o h;exact ih _ _ _ (h.stored o v).1
theorem chgL_setCells (g:Nat) (cs:List Value):∀ (w:World) (o:Nat),ChgL [g] w (w.setCells g o cs):=by
  induction cs with
  | nil => intro w o;exact ChgL.refl _ _
  | cons v r ih => intro w o;exact (ChgL.store [g] w g o v (by simp)).trans (ih _ _)
section
variable {α:Type} {E:Lay α} {t:TypeId} {w:World} {lo hi n g cap:Nat} {x:Nat → α} {ce:Nat → List Value}
theorem View.drew {v:Value} (h:View E t w lo hi v n x ce):View E t w.drew lo hi v n x ce:=h.kept (fun _ _ => rfl) ⟨rfl,rfl,rfl,Nat.le_refl _,fun _ _ => rfl⟩
theorem View.congr2 {v:Value} {y:Nat → α} {cy:Nat → List Value} (h:View E t w lo hi v n x ce) (hy:∀ i,i < n → x i = y i) (hc:∀ i,i < n → ce i = cy i):View E t w lo hi v n y cy:=⟨by rw [← catN_congr hc];exact h.row,fun i hi => by rw [← hy i hi,← hc i hi];exact h.each i hi⟩
theorem View.range (h:View E t w lo hi (.slice (some ⟨g,0,none⟩) n cap) n x ce) {i:Nat} (hi':i < n):w.rangeAt g (i * E.sz) (ce i):=fun j v hv => by
  have hj:j < E.sz:=by rw [← h.lens i hi'];exact (List.getElem?_eq_some_iff.1 hv).1
  rw [h.cell hi' hj];exact hv
theorem View.there (h:View E t w lo hi (.slice (some ⟨g,0,none⟩) n cap) n x ce) {i:Nat} (hi':i < n):w.there g (i * E.sz) E.sz:=fun j hj => by
  refine ⟨?_,h.row.frozenAt _⟩;rw [h.cell hi' hj,List.getElem?_eq_getElem (by rw [h.lens i hi'];exact hj)];rfl
theorem View.put (h:View E t w lo hi (.slice (some ⟨g,0,none⟩) n cap) n x ce) (hs:0 < E.sz) (hlo:hi ≤ lo) {i:Nat} (hi':i < n) {a:α} {cs:List Value} (ha:E.rd w hi a cs) :
    View E t (w.setCells g (i * E.sz) cs) lo hi (.slice (some ⟨g,0,none⟩) n cap) n (upd x i a) (upd ce i cs):=by
  have hg:=h.row.lt g rfl;have hb:Below lo w (w.setCells g (i * E.sz) cs):=(chgL_setCells g cs w _).bel (fun b hb => by simp at hb;omega) (by omega);refine ⟨?_,fun m hm => ?_⟩
  · have:=row_setCells cs w _ (i * E.sz) h.row
    rw [catN_upd hs h.lens (E.rd_len ha) hi'] at this;exact this
  · by_cases c:m = i
    · subst c
      rw [upd_at,upd_at];exact E.rd_below ha hb hlo
    · rw [upd_ne x a c,upd_ne ce _ c]
      exact E.rd_below (h.each m hm) hb hlo
end
end Go.Proofs.YtfoidpcoiankoaaGreat
namespace Go.Proofs.YtfoidpcoiankoaaGreat
open Go.RowKit F256
theorem mixedO:Tryz.prog.follows Departure.mixedOrders = true:=by kernel_rfl
theorem info_Rec9 {cs:List Value} (h:cs.length = 9):(Tryz.prog.info? 66).map (·.size) = some cs.length:=by rw [h];kernel_rfl
def RowsV (x0:Nat → RecD) (enc:Nat → List Value) (N blk cap lo hi:Nat) (w:World) (p:Nat → Nat):Prop:=View layRec 66 w lo hi (.slice (some ⟨blk,0,none⟩) N cap) N (fun i => x0 (p i)) (fun i => enc (p i))
theorem RowsV.same {x0:Nat → RecD} {enc:Nat → List Value} {N blk cap lo hi:Nat} {w:World} {p q:Nat → Nat} (h:RowsV x0 enc N blk cap lo hi w p) (e:∀ i,i < N → p i = q i):RowsV x0 enc N blk cap lo hi w q:=View.congr2 h (fun i hi => by rw [e i hi]) (fun i hi => by rw [e i hi])
theorem upd_swp {β:Type} (f:Nat → β) (p:Nat → Nat) (A B i:Nat):upd (upd (fun k => f (p k)) A (f (p B))) B (f (p A)) i = f (p (Sym.swp A B i)):=by
  unfold Sym.swp
  by_cases c1:i = B
  · subst c1
    rw [upd_at]
    by_cases c2:i = A
    · subst c2;simp
    · rw [if_neg c2,if_pos rfl]
  · rw [upd_ne _ _ c1]
    by_cases c2:i = A
    · subst c2;rw [upd_at,if_pos rfl]
    · rw [upd_ne _ _ c2,if_neg c2,if_neg c1]
theorem view_swap {x0:Nat → RecD} {enc:Nat → List Value} {p:Nat → Nat} {w:World} {lo hi N blk cap A B:Nat} (V:RowsV x0 enc N blk cap lo hi w p) (hlo:hi ≤ lo) (hA:A < N) (hB:B < N) :
    RowsV x0 enc N blk cap lo hi ((w.setCells blk (A * 9) (enc (p B))).setCells blk (B * 9) (enc (p A))) (fun k => p (Sym.swp A B k)) ∧ ChgL [blk] w ((w.setCells blk (A * 9) (enc (p B))).setCells blk (B * 9) (enc (p A))):=by
  unfold RowsV at V ⊢;have hg:=V.row.lt blk rfl;have C1:=chgL_setCells blk (enc (p B)) w (A * 9);have V1:=V.put (by decide) hlo hA (V.each B hB);have V2:=V1.put (by decide) hlo hB (layRec.rd_below (V.each A hA) (C1.bel (B:=hi) (fun b hb => by simp at hb;omega) (by omega)) (Nat.le_refl _));refine ⟨V2.congr2 (fun i _ => ?_) (fun i _ => ?_),C1.trans (chgL_setCells blk _ _ _)⟩
  · exact upd_swp x0 p A B i
  · exact upd_swp enc p A B i
set_option maxHeartbeats 4000000 in
set_option maxRecDepth 1000000 in
theorem swapRange_any (x0:Nat → RecD) (enc:Nat → List Value) (p:Nat → Nat) (N blk cap lo hi:Nat) (w:World) (V:RowsV x0 enc N blk cap lo hi w p) (hlo:hi ≤ lo) (hN:N < 1000000000) (a b n:Nat) (fv:Value) (hab:a + n ≤ b) (hb:b + n ≤ N) :
    Calls Tryz.prog 175 #[.slice (some ⟨blk,0,none⟩) N cap,.int .i64 a,.int .i64 b,.int .i64 n,fv] w (fun e w' => e = .returned (.tuple #[]) ∧ RowsV x0 enc N blk cap lo hi w' (fun k => p (Sym.swr a b n k)) ∧ ChgL [blk] w w'):=by
  have HV0:Hid (RowsV x0 enc N blk cap lo hi w p):=V;clear V
  go_enter Tryz.func175,Tryz.ntmps175
  go_wp2
  go_loopw [10] (fun i wr => ∃ t:Nat,t ≤ n ∧ i = .int .i64 t ∧ RowsV x0 enc N blk cap lo hi wr (fun k => p (Sym.swr a b t k)) ∧ ChgL [blk] w wr) (fun i _ => n - (intOf i).toNat)
  case atStart => exact ⟨0,Nat.zero_le _,rfl,HV0.out.same (fun i _ => by rw [Sym.swr_zero]),ChgL.refl _ _⟩
  case round =>
    obtain ⟨t,ht,rfl,V,C⟩:=hrel;have HC:Hid (ChgL [blk] w wr):=C;clear C
    by_cases hlt:t < n
    · have t1:(t:Int) < (n:Int):=by omega
      obtain ⟨q,hq⟩:∃ q:Nat → Nat,q = fun k => p (Sym.swr a b t k):=⟨_,rfl⟩;have HQ:Hid (q = fun k => p (Sym.swr a b t k)):=hq
      have VQ:RowsV x0 enc N blk cap lo hi wr q:=by rw [hq];exact V
      obtain ⟨A,hA⟩:∃ A,A = a + t:=⟨_,rfl⟩;obtain ⟨B,hB⟩:∃ B,B = b + t:=⟨_,rfl⟩
      have hAN:A < N:=by omega
      have hBN:B < N:=by omega
      have HAB:Hid (A = a + t ∧ B = b + t):=⟨hA,hB⟩
      have w1:IntKind.i64.wrap ((a:Int) + (t:Int)) = (A:Int):=by rw [IntKind.wrap_i64];omega
      have w2:IntKind.i64.wrap ((b:Int) + (t:Int)) = (B:Int):=by rw [IntKind.wrap_i64];omega
      have i1:(A:Int) < (N:Int):=by omega
      have i2:(B:Int) < (N:Int):=by omega
      have i3:(0:Int) ≤ (A:Int):=by omega
      have i4:(0:Int) ≤ (B:Int):=by omega
      have VD:=View.drew VQ;have rgA:wr.drew.rangeAt blk (A * 9) (enc (q A)):=VD.range hAN;have rgB:wr.drew.rangeAt blk (B * 9) (enc (q B)):=VD.range hBN;have hsA:(enc (q A)).length = 9:=VD.lens A hAN;have hsB:(enc (q B)).length = 9:=VD.lens B hBN
      have th1:wr.drew.there blk (A * 9) (enc (q B)).length:=by rw [hsB];exact VD.there hAN
      have th2:(wr.drew.setCells blk (A * 9) (enc (q B))).there blk (B * 9) (enc (q A)).length:=by rw [hsA];exact (VD.put (by decide) hlo hAN (VD.each B hBN)).there hBN
      have oneA:=rdOne_rec _ _ _ _ (VD.each A hAN);have oneB:=rdOne_rec _ _ _ _ (VD.each B hBN);have SW:=view_swap VD hlo hAN hBN;have HSW:Hid (RowsV x0 enc N blk cap lo hi ((wr.drew.setCells blk (A * 9) (enc (q B))).setCells blk (B * 9) (enc (q A))) (fun k => q (Sym.swp A B k))):=SW.1;have HSC:Hid (ChgL [blk] wr ((wr.drew.setCells blk (A * 9) (enc (q B))).setCells blk (B * 9) (enc (q A)))):=(ChgL.of_below ⟨rfl,rfl,rfl,Nat.le_refl _,fun _ _ => rfl⟩:ChgL [blk] wr wr.drew).trans SW.2;obtain ⟨cA,hcA⟩:∃ c,c = enc (q A):=⟨_,rfl⟩;obtain ⟨cB,hcB⟩:∃ c,c = enc (q B):=⟨_,rfl⟩;rw [← hcA] at rgA th2 hsA oneA HSW HSC;rw [← hcB] at rgB th1 th2 hsB oneB HSW HSC;clear hcA hcB VD SW;clear hq hA hB V VQ
      go_upto_region 3 with fail
      refine wp_region_M 21 (fun w' => w'.rangeAt blk (A * 9) cA ∧ w'.rangeAt blk (B * 9) cB) mixedO ⟨rgA,rgB⟩ (fun hHeld => ?_);refine wpAnyM_pure (i:=0) (oi:=_) (v:=?_) rfl (by kernel_rfl) (fun _ _ _ h => h) (Or.inl ⟨by rfl,?_⟩) (by assumption) ?_
      rotate_left
      · intro w' hSw;go_simp;try with_reducible rfl
      try simp only [Act.put,SL]
      refine wpAnyM_pure (i:=1) (oi:=_) (v:=?_) rfl (by kernel_rfl) (fun _ _ _ h => h) (Or.inl ⟨by rfl,?_⟩) (by assumption) ?_
      rotate_left
      · intro w' hSw;go_simp;try with_reducible rfl
      try simp only [Act.put,SL]
      refine wpAnyM_pure (i:=2) (oi:=_) (v:=?_) rfl (by kernel_rfl) (fun _ _ _ h => h) (Or.inl ⟨by rfl,?_⟩) (by assumption) ?_
      rotate_left
      · intro w' hSw;go_simp;try with_reducible rfl
      try simp only [Act.put,SL]
      refine wpAnyM_pure (i:=3) (oi:=_) (v:=?_) rfl (by kernel_rfl) (fun _ _ _ h => h) (Or.inl ⟨by rfl,?_⟩) (by assumption) ?_
      rotate_left
      · intro w' hSw;go_simp;try with_reducible rfl
      try simp only [Act.put,SL]
      refine wpAnyM_pure (i:=4) (oi:=_) (v:=?_) rfl (by kernel_rfl) (fun _ _ _ h => h) (Or.inl ⟨by rfl,?_⟩) (by assumption) ?_
      rotate_left
      · intro w' hSw;go_simp;try with_reducible rfl
      try simp only [Act.put,SL]
      refine wpAnyM_pure (i:=5) (oi:=_) (v:=?_) rfl (by kernel_rfl) (fun _ _ _ h => h) (Or.inl ⟨by rfl,?_⟩) (by assumption) ?_
      rotate_left
      · intro w' hSw;go_simp;try with_reducible rfl
      try simp only [Act.put,SL]
      refine wpAnyM_pure (i:=6) (oi:=_) (v:=?_) rfl (by kernel_rfl) (fun _ _ _ h => h) (Or.inl ⟨by rfl,?_⟩) (by assumption) ?_
      rotate_left
      · intro w' hSw;go_simp;try with_reducible rfl
      try simp only [Act.put,SL]
      refine wpAnyM_pure (i:=7) (oi:=_) (v:=?_) rfl (by kernel_rfl) (fun _ _ _ h => h) (Or.inl ⟨by rfl,?_⟩) (by assumption) ?_
      rotate_left
      · intro w' hSw;go_simp;try with_reducible rfl
      try simp only [Act.put,SL]
      refine wpAnyM_pure (i:=8) (oi:=_) (v:=?_) rfl (by kernel_rfl) (fun _ _ _ h => h) (Or.inl ⟨by rfl,?_⟩) (by assumption) ?_
      rotate_left
      · intro w' hSw;go_simp;try with_reducible rfl
      try simp only [Act.put,SL]
      refine wpAnyM_pure (i:=9) (oi:=_) (v:=?_) rfl (by kernel_rfl) (fun _ _ _ h => h) (Or.inl ⟨by rfl,?_⟩) (by assumption) ?_
      rotate_left
      · intro w' hSw;go_simp;try with_reducible rfl
      try simp only [Act.put,SL]
      refine wpAnyM_pure (i:=10) (oi:=_) (v:=?_) rfl (by kernel_rfl) (fun _ _ _ h => h) (Or.inl ⟨by rfl,?_⟩) (by assumption) ?_
      rotate_left
      · intro w' hSw;go_simp;try with_reducible rfl
      try simp only [Act.put,SL]
      refine wpAnyM_pure (i:=11) (oi:=_) (v:=?_) rfl (by kernel_rfl) (fun _ _ _ h => h) (Or.inl ⟨by rfl,?_⟩) (by assumption) ?_
      rotate_left
      · intro w' hSw;go_simp;try with_reducible rfl
      try simp only [Act.put,SL]
      refine wpAnyM_pure (i:=12) (oi:=_) (v:=?_) rfl (by kernel_rfl) (fun _ _ _ h => h) (Or.inl ⟨by rfl,?_⟩) (by assumption) ?_
      rotate_left
      · intro w' hSw;go_simp;try with_reducible rfl
      try simp only [Act.put,SL]
      refine wpAnyM_take (i:=13) (oi:=_) (v:=.agg cB.toArray) 16 rfl (by kernel_rfl) (fun _ _ _ h => h) (yieldsIf_load_mid (by rfl) 66 (.tmp 28) rfl blk (B * 9) (by simp [Act.eval,Act.put]) cB _ (fun w h => h.2) Tryz.underlying66 rfl (info_Rec9 hsB)) (by assumption) ?_
      try simp only [Act.put,SL]
      refine wpAnyM_pure (i:=14) (oi:=_) (v:=?_) rfl (by kernel_rfl) (fun _ _ _ h => h) (Or.inl ⟨by rfl,?_⟩) (by assumption) ?_
      rotate_left
      · intro w' hSw;go_simp;try with_reducible rfl
      try simp only [Act.put,SL]
      refine wpAnyM_pure (i:=15) (oi:=_) (v:=?_) rfl (by kernel_rfl) (fun _ _ _ h => h) (Or.inl ⟨by rfl,?_⟩) (by assumption) ?_
      rotate_left
      · intro w' hSw;go_simp;try with_reducible rfl
      try simp only [Act.put,SL]
      refine wpAnyM_pure (i:=16) (oi:=_) (v:=?_) rfl (by kernel_rfl) (fun _ _ _ h => h) (Or.inl ⟨by rfl,?_⟩) (by assumption) ?_
      rotate_left
      · intro w' hSw;go_simp;try with_reducible rfl
      try simp only [Act.put,SL]
      refine wpAnyM_pure (i:=17) (oi:=_) (v:=?_) rfl (by kernel_rfl) (fun _ _ _ h => h) (Or.inl ⟨by rfl,?_⟩) (by assumption) ?_
      rotate_left
      · intro w' hSw;go_simp;try with_reducible rfl
      try simp only [Act.put,SL]
      refine wpAnyM_pure (i:=18) (oi:=_) (v:=?_) rfl (by kernel_rfl) (fun _ _ _ h => h) (Or.inl ⟨by rfl,?_⟩) (by assumption) ?_
      rotate_left
      · intro w' hSw;go_simp;try with_reducible rfl
      try simp only [Act.put,SL]
      refine wpAnyM_take (i:=19) (oi:=_) (v:=.agg cA.toArray) 16 rfl (by kernel_rfl) (fun _ _ _ h => h) (yieldsIf_load_mid (by rfl) 66 (.tmp 34) rfl blk (A * 9) (by simp [Act.eval,Act.put]) cA _ (fun w h => h.1) Tryz.underlying66 rfl (info_Rec9 hsA)) (by assumption) ?_
      try simp only [Act.put,SL]
      refine wpAnyM_pure (i:=20) (oi:=_) (v:=?_) rfl (by kernel_rfl) (fun _ _ _ h => h) (Or.inl ⟨by rfl,?_⟩) (by assumption) ?_
      rotate_left
      · intro w' hSw;go_simp;try with_reducible rfl
      try simp only [Act.put,SL]
      refine wpAnyM_store (i:=21) rfl (by kernel_rfl) (by kernel_rfl) rfl rfl 66 (.tmp 36) (.tmp 29) rfl blk (A * 9) cB (by simp [Act.eval]) (by simp [Act.eval]) th1 (info_Rec9 hsB) oneB ?_;refine wpAnyM_pureL (i:=22) (oi:=_) (v:=?_) rfl (by kernel_rfl) (fun _ _ _ h => h) (Or.inl ⟨by rfl,?_⟩) ?_
      rotate_left
      · intro w' hSw;go_simp;try with_reducible rfl
      try simp only [Act.put,SL]
      refine wpAnyM_store (i:=23) rfl (by kernel_rfl) (by kernel_rfl) rfl rfl 66 (.tmp 37) (.tmp 35) rfl blk (B * 9) cA (by simp [Act.eval]) (by simp [Act.eval]) th2 (info_Rec9 hsA) oneA ?_;refine wpAnyM_done (by kernel_rfl) ?_ _;go_wp2
      go_roundw
      case rel =>
        have e:∀ i,q (Sym.swp A B i) = p (Sym.swr a b (t + 1) i):=fun i => by
          rw [HQ.out,HAB.out.1,HAB.out.2]
          show p (Sym.swr a b t (Sym.swp (a + t) (b + t) i)) = _
          rw [Sym.swr_succ (by omega)]
        exact ⟨t + 1,by omega,by go_num,HSW.out.same (fun i _ => e i),HC.out.trans HSC.out⟩
      case measure => simp [intOf];omega
    · obtain rfl:t = n:=by omega
      have HV:Hid (RowsV x0 enc N blk cap lo hi wr (fun k => p (Sym.swr a b t k))):=V;clear V;go_wp2
      go_end0
      exact ⟨rfl,HV.out,HC.out⟩
end Go.Proofs.YtfoidpcoiankoaaGreat