/- NewArchive of both sides. -/
import Derived.Test.YtcepcjkfdonclaaZPnewaraf
import Derived.Deep.DeepCutAuto
set_option linter.unusedVariables false
set_option linter.unusedSimpArgs false
namespace Go.Proofs.Ytcepcjkfdonclaa
open Go.RowKit F256
def NaAns (s:Nat → Int) (d:ArchiveResultD):Prop:=(¬ OkShape s ∧ d = ⟨3,0,⟨zeroW,⟨0,0⟩⟩⟩) ∨ (OkShape s ∧ d = ⟨0,0,⟨newW s,⟨(s 0 + s 1).toNat,1⟩⟩⟩)
theorem NaAns.one {s:Nat → Int} {d e:ArchiveResultD} (h:NaAns s d) (k:NaAns s e):d = e:=by
  rcases h with ⟨h1,h2⟩ | ⟨h1,h2⟩ <;> rcases k with ⟨k1,k2⟩ | ⟨k1,k2⟩
  · rw [h2,k2]
  · exact absurd k1 h1
  · exact absurd h1 k1
  · rw [h2,k2]
theorem na_ex (s:Nat → Int):∃ d,NaAns s d:=by
  by_cases h:OkShape s
  · exact ⟨_,.inr ⟨h,rfl⟩⟩
  · exact ⟨_,.inl ⟨h,rfl⟩⟩
def ArPost (P:ArchiveResultD → Prop) (w:World) (e:Ending) (w':World):Prop:=∃ d cs,e = .returned (.agg cs.toArray) ∧ P d ∧ OwnT layArchiveResult w' w.heap.size w'.heap.size d cs ∧ Below w.heap.size w w'
theorem calls_appN {n:Nat} {args:Array Value} {w:World} {R:Ending → World → Prop} (h:Calls Try.prog n args w R):Calls Try.prog n (args ++ #[]) w R:=by rw [Array.append_empty];exact h
theorem mixedN:Try.prog.follows Departure.mixedOrders = true:=by kernel_rfl
theorem sizeN_S:(Try.prog.info? 24).map (·.size) = some 9:=by kernel_rfl
theorem own_ND {w:World} {lo n:Nat} {v:Value} (x:Int) (h:NilRow w v n) (hl:NilLo v lo) (hn:n = 0 → v = .slice none 0 0):OwnT layDeskN w lo w.heap.size ⟨n,x⟩ [v,.slice none 0 0,.slice none 0 0,.int .i64 0,.int .i64 x]:=by
  have h':=h;obtain ⟨h1,ao,cap,rfl,h2⟩:=h
  by_cases h0:n = 0
  · have:=hn h0
    cases this
    exact ⟨[],⟨none,0,rfl,h',.inl ⟨rfl,rfl,rfl⟩⟩,List.nodup_nil,fun b hb => by cases hb⟩
  · obtain ⟨b,off,rfl,h3⟩:=h2 h0
    exact ⟨[b],⟨_,cap,rfl,h',.inr ⟨_,h0,rfl,rfl⟩⟩,by simp,fun b' hb => by
      simp only [List.mem_singleton] at hb
      subst hb
      exact ⟨hl _ _ _ rfl,nilRow_lt h' h0⟩⟩
theorem own_NA {w:World} {lo mid hi:Nat} {a:WorldD} {b:DeskND} {c d:List Value} (x y:Int) (hx:-9223372036854775808 ≤ x ∧ x ≤ 9223372036854775807) (hy:-9223372036854775808 ≤ y ∧ y ≤ 9223372036854775807) (h1:OwnT layWorld w lo mid a c) (h2:OwnT layDeskN w mid hi b d) (h3:lo ≤ mid) (h4:mid ≤ hi):OwnT layArchiveResult w lo hi ⟨x,y,⟨a,b⟩⟩ (.int .i64 x :: .int .i64 y :: (c ++ d)) :=
  OwnT.conv (OwnT.pre (A:=layI) (a:=x) (c:=[.int .i64 x]) ⟨rfl,hx,rfl⟩ (OwnT.pre (A:=layI) (a:=y) (c:=[.int .i64 y]) ⟨rfl,hy,rfl⟩ (OwnT.conv (OwnT.two h1 h2 (Nat.le_refl _) h3 h4))))
theorem own_naCode (w:World) (lo hi:Nat):OwnT layArchiveResult w lo hi ⟨3,0,⟨zeroW,⟨0,0⟩⟩⟩ [.int .i64 3,.int .i64 0,.int .i64 0,.int .i64 0,.int .i64 0,.int .i64 0,.int .i64 0,.int .i64 0,.int .i64 0,.int .i64 0,.int .i64 0,.slice none 0 0,.slice none 0 0,.slice none 0 0,.int .i64 0,.int .i64 0,.bool false,.slice none 0 0,.slice none 0 0,.slice none 0 0,.int .i64 0,.int .i64 0] :=
  OwnT.conv (OwnT.pre (A:=layI) (a:=(3:Int)) (c:=[.int .i64 3]) ⟨rfl,by decide,rfl⟩ (OwnT.pre (A:=layI) (a:=(0:Int)) (c:=[.int .i64 0]) ⟨rfl,by decide,rfl⟩ (OwnT.conv (OwnT.pre (own_zeroW w) (OwnT.nil (A:=layDeskN) (a:=⟨0,0⟩) (c:=[.slice none 0 0,.slice none 0 0,.slice none 0 0,.int .i64 0,.int .i64 0]) ⟨none,0,rfl,nilRow_none w,.inl ⟨rfl,rfl,rfl⟩⟩ lo hi)))))
theorem wr_open {w:World} {lo hi:Nat} {d:WorldResultD} {cs:List Value} (h:OwnT layWorldResult w lo hi d cs):∃ ao1 cap1 ao2 cap2 ao3 cap3,cs = [.int .i64 d.code,.int .i64 (d.world.shape 0),.int .i64 (d.world.shape 1),.int .i64 (d.world.shape 2),.int .i64 (d.world.shape 3),.int .i64 (d.world.shape 4),.int .i64 (d.world.shape 5),.int .i64 (d.world.shape 6),.int .i64 (d.world.shape 7),.int .i64 (d.world.shape 8),.slice ao1 d.world.groups.1 cap1,.slice ao2 d.world.on.1 cap2,.slice ao3 d.world.tapes.1 cap3,.int .i64 d.world.writes,.int .i64 d.world.stop,.bool d.world.down] ∧ OwnT layWorld w lo hi d.world [.int .i64 (d.world.shape 0),.int .i64 (d.world.shape 1),.int .i64 (d.world.shape 2),.int .i64 (d.world.shape 3),.int .i64 (d.world.shape 4),.int .i64 (d.world.shape 5),.int .i64 (d.world.shape 6),.int .i64 (d.world.shape 7),.int .i64 (d.world.shape 8),.slice ao1 d.world.groups.1 cap1,.slice ao2 d.world.on.1 cap2,.slice ao3 d.world.tapes.1 cap3,.int .i64 d.world.writes,.int .i64 d.world.stop,.bool d.world.down]:=by
  obtain ⟨L,h1,h2,h3⟩:=h;obtain ⟨a1,c1,a2,c2,a3,c3,K,rfl,rfl,o,_⟩:=WorldResult_own h1;exact ⟨a1,c1,a2,c2,a3,c3,rfl,L,o,h2,h3⟩
theorem step_storeBoxN {ops:Array Oper} {o:Oper} {a:Act} {w:World} {K:Act → World → Prop} {Q:Exit → Act → World → Prop} {F:Prop} (T:TypeId) (x y:Operand) (ho:o.op = .store T x y) (hgd:o.guard = none) (b:Nat) (hx:a.eval x = .pointer (some ⟨b,0,none⟩)) {cs old:List Value} (hy:a.eval y = .agg cs.toArray) (hB:Box w b old.toArray T) {n:Nat} (hi:(Try.prog.info? T).map (·.size) = some n) (hl:cs.length = n) (hol:old.length = n) (h1:∀ v,v ∈ cs → v.oneCell' = true)
    (h:∀ w',Box w' b cs.toArray T → ChgL [b] w w' → w'.heap.size = w.heap.size → K (a.put o.dst undef) w'):if Region.wanted o (yielded ops a.tmps) = true then Oper.wp Try.prog o a w K Q else F:=by
  have hw:Region.wanted o (yielded ops a.tmps) = true:=by simp [Region.wanted,hgd]
  rw [if_pos hw];refine wp_store_row T x y ho b cs.toArray hx hy T old.toArray hB (by rw [hi];simp [hl]) (by simp [hl,hol]) (by simp;exact h1) ?_;exact h _ (setRow_heap w b _ cs.toArray T (0,0) hB) (chgL_setRow b _) (by simp)
set_option maxHeartbeats 8000000 in
set_option maxRecDepth 20000 in
theorem specNa_any (s:Nat → Int) (hs:∀ i,-9223372036854775808 ≤ s i ∧ s i ≤ 9223372036854775807) (w:World):Calls Try.prog 4 #[shapeV s] w (ArPost (NaAns s) w):=by
  have CSh:=fun w' => specShape_any s w';have CW:=fun w' => calls_appN (specNew_any s hs w');have CD:=fun w' => calls_appN (specNewDesk_any s w');obtain ⟨shq,hshq,hSn⟩:∃ l:List Value,shapeV s = .agg l.toArray ∧ l.length = 9:=⟨[.int .i64 (s 0),.int .i64 (s 1),.int .i64 (s 2),.int .i64 (s 3),.int .i64 (s 4),.int .i64 (s 5),.int .i64 (s 6),.int .i64 (s 7),.int .i64 (s 8)],rfl,rfl⟩;rw [hshq] at CSh CW CD ⊢;have T0:=two_newb w shq.toArray #[.int .i64 0,.int .i64 0,.int .i64 0,.int .i64 0,.int .i64 0,.int .i64 0,.int .i64 0,.int .i64 0,.int .i64 0,.int .i64 0,.int .i64 0,.slice none 0 0,.slice none 0 0,.slice none 0 0,.int .i64 0,.int .i64 0,.bool false,.slice none 0 0,.slice none 0 0,.slice none 0 0,.int .i64 0,.int .i64 0] 24 38;clear hshq hs
  go_enter Try.func4,Try.ntmps4
  go_wp2_with (refine wp_loadBox 24 (.tmp 1) rfl rfl (w.heap.size) rfl T0.b1 Try.underlying24 sizeN_S hSn ?_)
  refine (CSh _).mono ?_;rintro e w1 ⟨x,rfl,hx,b1⟩;have HT1:Hid (Two w w1 shq.toArray #[.int .i64 0,.int .i64 0,.int .i64 0,.int .i64 0,.int .i64 0,.int .i64 0,.int .i64 0,.int .i64 0,.int .i64 0,.int .i64 0,.int .i64 0,.slice none 0 0,.slice none 0 0,.slice none 0 0,.int .i64 0,.int .i64 0,.bool false,.slice none 0 0,.slice none 0 0,.slice none 0 0,.int .i64 0,.int .i64 0] 24 38):=T0.call b1;have z1:w.heap.size + 1 < w1.heap.size:=HT1.out.b2.lt;clear T0 b1 CSh
  rcases hx with ⟨rfl,hx⟩ | ⟨rfl,hx⟩
  · have HN:Hid (¬ OkShape s):=hx
    clear hx CW CD
    go_wp2_with (refine wp_storeBox 38 _ _ rfl rfl (w.heap.size + 1) rfl (cs:=[.int .i64 3,.int .i64 0,.int .i64 0,.int .i64 0,.int .i64 0,.int .i64 0,.int .i64 0,.int .i64 0,.int .i64 0,.int .i64 0,.int .i64 0,.slice none 0 0,.slice none 0 0,.slice none 0 0,.int .i64 0,.int .i64 0,.bool false,.slice none 0 0,.slice none 0 0,.slice none 0 0,.int .i64 0,.int .i64 0]) (old:=[.int .i64 0,.int .i64 0,.int .i64 0,.int .i64 0,.int .i64 0,.int .i64 0,.int .i64 0,.int .i64 0,.int .i64 0,.int .i64 0,.int .i64 0,.slice none 0 0,.slice none 0 0,.slice none 0 0,.int .i64 0,.int .i64 0,.bool false,.slice none 0 0,.slice none 0 0,.slice none 0 0,.int .i64 0,.int .i64 0]) rfl (HT1.out.b2) sizeN_AR rfl rfl ((own_naCode w1 0 0).one) ?_;intro w9 X9 C9 z9)
    refine ret_box Try.results4 rfl X9 Try.underlying38 sizeN_AR rfl rfl ?_;exact ⟨_,[.int .i64 3,.int .i64 0,.int .i64 0,.int .i64 0,.int .i64 0,.int .i64 0,.int .i64 0,.int .i64 0,.int .i64 0,.int .i64 0,.int .i64 0,.slice none 0 0,.slice none 0 0,.slice none 0 0,.int .i64 0,.int .i64 0,.bool false,.slice none 0 0,.slice none 0 0,.slice none 0 0,.int .i64 0,.int .i64 0],rfl,.inl ⟨HN.out,rfl⟩,own_naCode w9 _ _,HT1.out.bel.trans (C9.bel (fun b hb => by simp at hb;omega) HT1.out.bel.size)⟩
  · have HOK:Hid (OkShape s):=hx
    clear hx
    have fW:∀ (ao1 ao2 ao3:Option Addr) (cap1 cap2 cap3:Nat) (w':World),(Instr.field 46 (.agg #[.int .i64 0,.int .i64 ((newW s).shape 0),.int .i64 ((newW s).shape 1),.int .i64 ((newW s).shape 2),.int .i64 ((newW s).shape 3),.int .i64 ((newW s).shape 4),.int .i64 ((newW s).shape 5),.int .i64 ((newW s).shape 6),.int .i64 ((newW s).shape 7),.int .i64 ((newW s).shape 8),.slice ao1 (newW s).groups.1 cap1,.slice ao2 (newW s).on.1 cap2,.slice ao3 (newW s).tapes.1 cap3,.int .i64 (newW s).writes,.int .i64 (newW s).stop,.bool (newW s).down]) 1).run Try.prog w' = .ok (.agg #[.int .i64 ((newW s).shape 0),.int .i64 ((newW s).shape 1),.int .i64 ((newW s).shape 2),.int .i64 ((newW s).shape 3),.int .i64 ((newW s).shape 4),.int .i64 ((newW s).shape 5),.int .i64 ((newW s).shape 6),.int .i64 ((newW s).shape 7),.int .i64 ((newW s).shape 8),.slice ao1 (newW s).groups.1 cap1,.slice ao2 (newW s).on.1 cap2,.slice ao3 (newW s).tapes.1 cap3,.int .i64 (newW s).writes,.int .i64 (newW s).stop,.bool (newW s).down]) w'  :=fun ao1 ao2 ao3 cap1 cap2 cap3 w' => by kernel_rfl
    have fD:∀ (v3:Value) (w':World),(Instr.field 49 (.agg #[.int .i64 0,v3,.slice none 0 0,.slice none 0 0,.int .i64 0,.int .i64 1]) 1).run Try.prog w' = .ok (.agg #[v3,.slice none 0 0,.slice none 0 0,.int .i64 0,.int .i64 1]) w':=fun v3 w' => by kernel_rfl
    have bD:Below w1.heap.size w1 w1.drew:=⟨rfl,rfl,rfl,Nat.le_refl _,fun _ _ => rfl⟩;have HTD:Hid (Two w w1.drew shq.toArray #[.int .i64 0,.int .i64 0,.int .i64 0,.int .i64 0,.int .i64 0,.int .i64 0,.int .i64 0,.int .i64 0,.int .i64 0,.int .i64 0,.int .i64 0,.slice none 0 0,.slice none 0 0,.slice none 0 0,.int .i64 0,.int .i64 0,.bool false,.slice none 0 0,.slice none 0 0,.slice none 0 0,.int .i64 0,.int .i64 0] 24 38):=HT1.out.call bD;have rS:w1.drew.rangeAt w.heap.size 0 shq:=box_pre (c2:=[]) HTD.out.b1 (by simp);have zD:w1.drew.heap.size = w1.heap.size:=rfl;clear HT1 bD
    go_upto_region 4 with fail
    refine wp_region_M 4 (fun w' => w'.rangeAt w.heap.size 0 shq) mixedN rS (fun hHeld => ?_);refine wpAnyM_take (i:=0) (oi:=_) (v:=.agg shq.toArray) 16 rfl (by kernel_rfl) (fun _ _ _ h => h) (yieldsIf_load_mid (by kernel_rfl) 24 (.tmp 1) rfl w.heap.size (0) (by simp [Act.eval,Act.put]) shq _ (fun w h => h) Try.underlying24 rfl (szl sizeN_S hSn)) (by assumption) ?_
    try simp only [Act.put,SL]
    refine wpAnyM_take (i:=3) (oi:=_) (v:=.agg shq.toArray) 16 rfl (by kernel_rfl) (fun _ _ _ h => h) (yieldsIf_load_mid (by kernel_rfl) 24 (.tmp 1) rfl w.heap.size (0) (by simp [Act.eval,Act.put]) shq _ (fun w h => h) Try.underlying24 rfl (szl sizeN_S hSn)) (by assumption) ?_
    try simp only [Act.put,SL]
    refine wpAnyM_oneS (i:=1) (o:=_) rfl (by kernel_rfl) (fun KC hKC => ?_);refine step_callv (by kernel_rfl) (.func 11) 11 #[] _ _ rfl (by simp [Act.eval,Act.put]) #[.agg shq.toArray] (by simp [Act.eval,Act.put]) Try.func11 (by kernel_rfl) (by kernel_rfl) (CW _) ?_;rintro e w2 ⟨d,cs,rfl,hd,O2,b2⟩;refine ⟨_,rfl,?_⟩;have HT2:Hid (Two w w2 shq.toArray #[.int .i64 0,.int .i64 0,.int .i64 0,.int .i64 0,.int .i64 0,.int .i64 0,.int .i64 0,.int .i64 0,.int .i64 0,.int .i64 0,.int .i64 0,.slice none 0 0,.slice none 0 0,.slice none 0 0,.int .i64 0,.int .i64 0,.bool false,.slice none 0 0,.slice none 0 0,.slice none 0 0,.int .i64 0,.int .i64 0] 24 38):=HTD.out.call b2;have rS2:w2.rangeAt w.heap.size 0 shq:=box_pre (c2:=[]) HT2.out.b1 (by simp);refine hKC _ _ rS2 ?_;clear hKC KC
    try simp only [Act.put,SL]
    obtain rfl:d = ⟨0,newW s⟩:=by
      rcases hd with ⟨h1,_⟩ | ⟨_,h1⟩
      · exact absurd HOK.out h1
      · exact h1
    obtain ⟨ao1,cap1,ao2,cap2,ao3,cap3,rfl,OW⟩:=wr_open O2;have HW2:Hid (OwnT layWorld w2 w1.heap.size w2.heap.size (newW s) [.int .i64 ((newW s).shape 0),.int .i64 ((newW s).shape 1),.int .i64 ((newW s).shape 2),.int .i64 ((newW s).shape 3),.int .i64 ((newW s).shape 4),.int .i64 ((newW s).shape 5),.int .i64 ((newW s).shape 6),.int .i64 ((newW s).shape 7),.int .i64 ((newW s).shape 8),.slice ao1 (newW s).groups.1 cap1,.slice ao2 (newW s).on.1 cap2,.slice ao3 (newW s).tapes.1 cap3,.int .i64 (newW s).writes,.int .i64 (newW s).stop,.bool (newW s).down]):=OW;have z2:w1.heap.size ≤ w2.heap.size:=b2.size;clear O2 OW b2 HTD rS hd;refine wpAnyM_pure (i:=2) (oi:=_) (v:=?_) rfl (by kernel_rfl) (fun _ _ _ h => h) (Or.inl ⟨by kernel_rfl,?_⟩) (by assumption) ?_
    rotate_left
    · intro w' hSw;go_simp;try with_reducible rfl
    try simp only [Act.put,SL]
    refine wpAnyM_one (i:=4) (o:=_) rfl (by kernel_rfl) (by kernel_rfl) (fun KC hKC => ?_);refine step_callv (by kernel_rfl) (.func 12) 12 #[] _ _ rfl (by simp [Act.eval,Act.put]) #[.agg shq.toArray] (by simp [Act.eval,Act.put]) Try.func12 (by kernel_rfl) (by kernel_rfl) (CD _) ?_;rintro e w3 ⟨c3,n3,x3,v3,rfl,hd,r3,b3,l3⟩;refine ⟨_,rfl,?_⟩;refine hKC _ _ ?_;clear hKC KC
    try simp only [Act.put,SL]
    obtain ⟨rfl,hn3,rfl⟩:c3 = 0 ∧ (n3:Int) = s 0 + s 1 ∧ x3 = 1:=by
      rcases hd with ⟨h1,_⟩ | ⟨_,h1,h2,h3⟩
      · exact absurd HOK.out h1
      · exact ⟨h1,h2,h3⟩
    have hOb:=okB HOK.out
    have HD3:Hid (OwnT layDeskN w3 w2.heap.size w3.heap.size ⟨(s 0 + s 1).toNat,1⟩ [v3,.slice none 0 0,.slice none 0 0,.int .i64 0,.int .i64 1]):=by
      have e3:n3 = (s 0 + s 1).toNat:=by omega
      rw [← e3];exact own_ND 1 r3 l3 (fun h0 => by omega)
    have HT3:Hid (Two w w3 shq.toArray #[.int .i64 0,.int .i64 0,.int .i64 0,.int .i64 0,.int .i64 0,.int .i64 0,.int .i64 0,.int .i64 0,.int .i64 0,.int .i64 0,.int .i64 0,.slice none 0 0,.slice none 0 0,.slice none 0 0,.int .i64 0,.int .i64 0,.bool false,.slice none 0 0,.slice none 0 0,.slice none 0 0,.int .i64 0,.int .i64 0] 24 38):=HT2.out.call b3;have HW3:Hid (OwnT layWorld w3 w1.heap.size w2.heap.size (newW s) [.int .i64 ((newW s).shape 0),.int .i64 ((newW s).shape 1),.int .i64 ((newW s).shape 2),.int .i64 ((newW s).shape 3),.int .i64 ((newW s).shape 4),.int .i64 ((newW s).shape 5),.int .i64 ((newW s).shape 6),.int .i64 ((newW s).shape 7),.int .i64 ((newW s).shape 8),.slice ao1 (newW s).groups.1 cap1,.slice ao2 (newW s).on.1 cap2,.slice ao3 (newW s).tapes.1 cap3,.int .i64 (newW s).writes,.int .i64 (newW s).stop,.bool (newW s).down]):=HW2.out.call b3;have z3:w2.heap.size ≤ w3.heap.size:=b3.size;have HA3:Hid (OwnT layArchiveResult w3 w1.heap.size w3.heap.size ⟨0,0,⟨newW s,⟨(s 0 + s 1).toNat,1⟩⟩⟩ [.int .i64 0,.int .i64 0,.int .i64 ((newW s).shape 0),.int .i64 ((newW s).shape 1),.int .i64 ((newW s).shape 2),.int .i64 ((newW s).shape 3),.int .i64 ((newW s).shape 4),.int .i64 ((newW s).shape 5),.int .i64 ((newW s).shape 6),.int .i64 ((newW s).shape 7),.int .i64 ((newW s).shape 8),.slice ao1 (newW s).groups.1 cap1,.slice ao2 (newW s).on.1 cap2,.slice ao3 (newW s).tapes.1 cap3,.int .i64 (newW s).writes,.int .i64 (newW s).stop,.bool (newW s).down,v3,.slice none 0 0,.slice none 0 0,.int .i64 0,.int .i64 1]):=own_NA 0 0 (by decide) (by decide) HW3.out HD3.out z2 z3
    obtain ⟨a3,k3,rfl⟩:∃ a k,v3 = .slice a n3 k:=by
      obtain ⟨_,a,k,h,_⟩:=r3;exact ⟨a,k,h⟩
    clear HT2 HW2 b3 r3 l3 hd hn3 hOb HD3 HW3;refine wpAnyM_pureL (i:=5) (oi:=_) (v:=?_) rfl (by kernel_rfl) (fun _ _ _ h => h) (Or.inl ⟨by kernel_rfl,?_⟩) ?_
    rotate_left
    · intro w' hSw;go_simp;try with_reducible rfl
    try simp only [Act.put,SL]
    refine wpAnyM_pureL (i:=6) (oi:=_) (v:=?_) rfl (by kernel_rfl) (fun _ _ _ h => h) (Or.inl ⟨by kernel_rfl,?_⟩) ?_
    rotate_left
    · intro w' hSw;go_simp;try with_reducible rfl
    try simp only [Act.put,SL]
    refine wpAnyM_pureL (i:=7) (oi:=_) (v:=?_) rfl (by kernel_rfl) (fun _ _ _ h => h) (Or.inl ⟨by kernel_rfl,?_⟩) ?_
    rotate_left
    · intro w' hSw;go_simp;try with_reducible rfl
    try simp only [Act.put,SL]
    refine wpAnyM_one (i:=8) (o:=_) rfl (by kernel_rfl) (by kernel_rfl) (fun KC hKC => ?_);refine step_storeBoxN 38 _ _ rfl rfl (w.heap.size + 1) (by simp [Act.eval,Act.put]) (cs:=[.int .i64 0,.int .i64 0,.int .i64 ((newW s).shape 0),.int .i64 ((newW s).shape 1),.int .i64 ((newW s).shape 2),.int .i64 ((newW s).shape 3),.int .i64 ((newW s).shape 4),.int .i64 ((newW s).shape 5),.int .i64 ((newW s).shape 6),.int .i64 ((newW s).shape 7),.int .i64 ((newW s).shape 8),.slice ao1 (newW s).groups.1 cap1,.slice ao2 (newW s).on.1 cap2,.slice ao3 (newW s).tapes.1 cap3,.int .i64 (newW s).writes,.int .i64 (newW s).stop,.bool (newW s).down,.slice a3 n3 k3,.slice none 0 0,.slice none 0 0,.int .i64 0,.int .i64 1]) (old:=[.int .i64 0,.int .i64 0,.int .i64 0,.int .i64 0,.int .i64 0,.int .i64 0,.int .i64 0,.int .i64 0,.int .i64 0,.int .i64 0,.int .i64 0,.slice none 0 0,.slice none 0 0,.slice none 0 0,.int .i64 0,.int .i64 0,.bool false,.slice none 0 0,.slice none 0 0,.slice none 0 0,.int .i64 0,.int .i64 0]) (by simp [Act.eval,Act.put]) (HT3.out.b2) sizeN_AR rfl rfl (HA3.out.one) ?_;intro w9 X9 C9 z9;refine hKC _ _ ?_;clear hKC KC
    try simp only [Act.put,SL]
    refine wpAnyM_done (by kernel_rfl) ?_ _;go_wp2;refine ret_box Try.results4 rfl X9 Try.underlying38 sizeN_AR rfl rfl ?_;have zz:=C9.size;have O9:=(HA3.out.chgk C9 (fun b hb => by simp at hb;omega)).weaken (lo':=w.heap.size) (hi':=w9.heap.size) (by omega) zz;exact ⟨_,_,rfl,.inr ⟨HOK.out,rfl⟩,O9,HT3.out.bel.trans (C9.bel (fun b hb => by simp at hb;omega) HT3.out.bel.size)⟩
set_option maxHeartbeats 8000000 in
set_option maxRecDepth 20000 in
theorem implNa_any (s:Nat → Int) (hs:∀ i,-9223372036854775808 ≤ s i ∧ s i ≤ 9223372036854775807) (w:World):Calls Try.prog 6 #[shapeV s] w (ArPost (NaAns s) w):=by
  have CSh:=fun w' => implShape_any s w';have CW:=fun w' => calls_appN (implNew_any s hs w');have CD:=fun w' => calls_appN (implNewDesk_any s w');obtain ⟨shq,hshq,hSn⟩:∃ l:List Value,shapeV s = .agg l.toArray ∧ l.length = 9:=⟨[.int .i64 (s 0),.int .i64 (s 1),.int .i64 (s 2),.int .i64 (s 3),.int .i64 (s 4),.int .i64 (s 5),.int .i64 (s 6),.int .i64 (s 7),.int .i64 (s 8)],rfl,rfl⟩;rw [hshq] at CSh CW CD ⊢;have T0:=two_newb w shq.toArray #[.int .i64 0,.int .i64 0,.int .i64 0,.int .i64 0,.int .i64 0,.int .i64 0,.int .i64 0,.int .i64 0,.int .i64 0,.int .i64 0,.int .i64 0,.slice none 0 0,.slice none 0 0,.slice none 0 0,.int .i64 0,.int .i64 0,.bool false,.slice none 0 0,.slice none 0 0,.slice none 0 0,.int .i64 0,.int .i64 0] 24 38;clear hshq hs
  go_enter Try.func6,Try.ntmps6
  go_wp2_with (refine wp_loadBox 24 (.tmp 1) rfl rfl (w.heap.size) rfl T0.b1 Try.underlying24 sizeN_S hSn ?_)
  refine (CSh _).mono ?_;rintro e w1 ⟨x,rfl,hx,b1⟩;have HT1:Hid (Two w w1 shq.toArray #[.int .i64 0,.int .i64 0,.int .i64 0,.int .i64 0,.int .i64 0,.int .i64 0,.int .i64 0,.int .i64 0,.int .i64 0,.int .i64 0,.int .i64 0,.slice none 0 0,.slice none 0 0,.slice none 0 0,.int .i64 0,.int .i64 0,.bool false,.slice none 0 0,.slice none 0 0,.slice none 0 0,.int .i64 0,.int .i64 0] 24 38):=T0.call b1;have z1:w.heap.size + 1 < w1.heap.size:=HT1.out.b2.lt;clear T0 b1 CSh
  rcases hx with ⟨rfl,hx⟩ | ⟨rfl,hx⟩
  · have HN:Hid (¬ OkShape s):=hx
    clear hx CW CD
    go_wp2_with (refine wp_storeBox 38 _ _ rfl rfl (w.heap.size + 1) rfl (cs:=[.int .i64 3,.int .i64 0,.int .i64 0,.int .i64 0,.int .i64 0,.int .i64 0,.int .i64 0,.int .i64 0,.int .i64 0,.int .i64 0,.int .i64 0,.slice none 0 0,.slice none 0 0,.slice none 0 0,.int .i64 0,.int .i64 0,.bool false,.slice none 0 0,.slice none 0 0,.slice none 0 0,.int .i64 0,.int .i64 0]) (old:=[.int .i64 0,.int .i64 0,.int .i64 0,.int .i64 0,.int .i64 0,.int .i64 0,.int .i64 0,.int .i64 0,.int .i64 0,.int .i64 0,.int .i64 0,.slice none 0 0,.slice none 0 0,.slice none 0 0,.int .i64 0,.int .i64 0,.bool false,.slice none 0 0,.slice none 0 0,.slice none 0 0,.int .i64 0,.int .i64 0]) rfl (HT1.out.b2) sizeN_AR rfl rfl ((own_naCode w1 0 0).one) ?_;intro w9 X9 C9 z9)
    refine ret_box Try.results6 rfl X9 Try.underlying38 sizeN_AR rfl rfl ?_;exact ⟨_,[.int .i64 3,.int .i64 0,.int .i64 0,.int .i64 0,.int .i64 0,.int .i64 0,.int .i64 0,.int .i64 0,.int .i64 0,.int .i64 0,.int .i64 0,.slice none 0 0,.slice none 0 0,.slice none 0 0,.int .i64 0,.int .i64 0,.bool false,.slice none 0 0,.slice none 0 0,.slice none 0 0,.int .i64 0,.int .i64 0],rfl,.inl ⟨HN.out,rfl⟩,own_naCode w9 _ _,HT1.out.bel.trans (C9.bel (fun b hb => by simp at hb;omega) HT1.out.bel.size)⟩
  · have HOK:Hid (OkShape s):=hx
    clear hx
    have fW:∀ (ao1 ao2 ao3:Option Addr) (cap1 cap2 cap3:Nat) (w':World),(Instr.field 46 (.agg #[.int .i64 0,.int .i64 ((newW s).shape 0),.int .i64 ((newW s).shape 1),.int .i64 ((newW s).shape 2),.int .i64 ((newW s).shape 3),.int .i64 ((newW s).shape 4),.int .i64 ((newW s).shape 5),.int .i64 ((newW s).shape 6),.int .i64 ((newW s).shape 7),.int .i64 ((newW s).shape 8),.slice ao1 (newW s).groups.1 cap1,.slice ao2 (newW s).on.1 cap2,.slice ao3 (newW s).tapes.1 cap3,.int .i64 (newW s).writes,.int .i64 (newW s).stop,.bool (newW s).down]) 1).run Try.prog w' = .ok (.agg #[.int .i64 ((newW s).shape 0),.int .i64 ((newW s).shape 1),.int .i64 ((newW s).shape 2),.int .i64 ((newW s).shape 3),.int .i64 ((newW s).shape 4),.int .i64 ((newW s).shape 5),.int .i64 ((newW s).shape 6),.int .i64 ((newW s).shape 7),.int .i64 ((newW s).shape 8),.slice ao1 (newW s).groups.1 cap1,.slice ao2 (newW s).on.1 cap2,.slice ao3 (newW s).tapes.1 cap3,.int .i64 (newW s).writes,.int .i64 (newW s).stop,.bool (newW s).down]) w'  :=fun ao1 ao2 ao3 cap1 cap2 cap3 w' => by kernel_rfl
    have fD:∀ (v3:Value) (w':World),(Instr.field 49 (.agg #[.int .i64 0,v3,.slice none 0 0,.slice none 0 0,.int .i64 0,.int .i64 1]) 1).run Try.prog w' = .ok (.agg #[v3,.slice none 0 0,.slice none 0 0,.int .i64 0,.int .i64 1]) w':=fun v3 w' => by kernel_rfl
    have bD:Below w1.heap.size w1 w1.drew:=⟨rfl,rfl,rfl,Nat.le_refl _,fun _ _ => rfl⟩;have HTD:Hid (Two w w1.drew shq.toArray #[.int .i64 0,.int .i64 0,.int .i64 0,.int .i64 0,.int .i64 0,.int .i64 0,.int .i64 0,.int .i64 0,.int .i64 0,.int .i64 0,.int .i64 0,.slice none 0 0,.slice none 0 0,.slice none 0 0,.int .i64 0,.int .i64 0,.bool false,.slice none 0 0,.slice none 0 0,.slice none 0 0,.int .i64 0,.int .i64 0] 24 38):=HT1.out.call bD;have rS:w1.drew.rangeAt w.heap.size 0 shq:=box_pre (c2:=[]) HTD.out.b1 (by simp);have zD:w1.drew.heap.size = w1.heap.size:=rfl;clear HT1 bD
    go_upto_region 4 with fail
    refine wp_region_M 4 (fun w' => w'.rangeAt w.heap.size 0 shq) mixedN rS (fun hHeld => ?_);refine wpAnyM_take (i:=0) (oi:=_) (v:=.agg shq.toArray) 16 rfl (by kernel_rfl) (fun _ _ _ h => h) (yieldsIf_load_mid (by kernel_rfl) 24 (.tmp 1) rfl w.heap.size (0) (by simp [Act.eval,Act.put]) shq _ (fun w h => h) Try.underlying24 rfl (szl sizeN_S hSn)) (by assumption) ?_
    try simp only [Act.put,SL]
    refine wpAnyM_take (i:=3) (oi:=_) (v:=.agg shq.toArray) 16 rfl (by kernel_rfl) (fun _ _ _ h => h) (yieldsIf_load_mid (by kernel_rfl) 24 (.tmp 1) rfl w.heap.size (0) (by simp [Act.eval,Act.put]) shq _ (fun w h => h) Try.underlying24 rfl (szl sizeN_S hSn)) (by assumption) ?_
    try simp only [Act.put,SL]
    refine wpAnyM_oneS (i:=1) (o:=_) rfl (by kernel_rfl) (fun KC hKC => ?_);refine step_callv (by kernel_rfl) (.func 14) 14 #[] _ _ rfl (by simp [Act.eval,Act.put]) #[.agg shq.toArray] (by simp [Act.eval,Act.put]) Try.func14 (by kernel_rfl) (by kernel_rfl) (CW _) ?_;rintro e w2 ⟨d,cs,rfl,hd,O2,b2⟩;refine ⟨_,rfl,?_⟩;have HT2:Hid (Two w w2 shq.toArray #[.int .i64 0,.int .i64 0,.int .i64 0,.int .i64 0,.int .i64 0,.int .i64 0,.int .i64 0,.int .i64 0,.int .i64 0,.int .i64 0,.int .i64 0,.slice none 0 0,.slice none 0 0,.slice none 0 0,.int .i64 0,.int .i64 0,.bool false,.slice none 0 0,.slice none 0 0,.slice none 0 0,.int .i64 0,.int .i64 0] 24 38):=HTD.out.call b2;have rS2:w2.rangeAt w.heap.size 0 shq:=box_pre (c2:=[]) HT2.out.b1 (by simp);refine hKC _ _ rS2 ?_;clear hKC KC
    try simp only [Act.put,SL]
    obtain rfl:d = ⟨0,newW s⟩:=by
      rcases hd with ⟨h1,_⟩ | ⟨_,h1⟩
      · exact absurd HOK.out h1
      · exact h1
    obtain ⟨ao1,cap1,ao2,cap2,ao3,cap3,rfl,OW⟩:=wr_open O2;have HW2:Hid (OwnT layWorld w2 w1.heap.size w2.heap.size (newW s) [.int .i64 ((newW s).shape 0),.int .i64 ((newW s).shape 1),.int .i64 ((newW s).shape 2),.int .i64 ((newW s).shape 3),.int .i64 ((newW s).shape 4),.int .i64 ((newW s).shape 5),.int .i64 ((newW s).shape 6),.int .i64 ((newW s).shape 7),.int .i64 ((newW s).shape 8),.slice ao1 (newW s).groups.1 cap1,.slice ao2 (newW s).on.1 cap2,.slice ao3 (newW s).tapes.1 cap3,.int .i64 (newW s).writes,.int .i64 (newW s).stop,.bool (newW s).down]):=OW;have z2:w1.heap.size ≤ w2.heap.size:=b2.size;clear O2 OW b2 HTD rS hd;refine wpAnyM_pure (i:=2) (oi:=_) (v:=?_) rfl (by kernel_rfl) (fun _ _ _ h => h) (Or.inl ⟨by kernel_rfl,?_⟩) (by assumption) ?_
    rotate_left
    · intro w' hSw;go_simp;try with_reducible rfl
    try simp only [Act.put,SL]
    refine wpAnyM_one (i:=4) (o:=_) rfl (by kernel_rfl) (by kernel_rfl) (fun KC hKC => ?_);refine step_callv (by kernel_rfl) (.func 15) 15 #[] _ _ rfl (by simp [Act.eval,Act.put]) #[.agg shq.toArray] (by simp [Act.eval,Act.put]) Try.func15 (by kernel_rfl) (by kernel_rfl) (CD _) ?_;rintro e w3 ⟨c3,n3,x3,v3,rfl,hd,r3,b3,l3⟩;refine ⟨_,rfl,?_⟩;refine hKC _ _ ?_;clear hKC KC
    try simp only [Act.put,SL]
    obtain ⟨rfl,hn3,rfl⟩:c3 = 0 ∧ (n3:Int) = s 0 + s 1 ∧ x3 = 1:=by
      rcases hd with ⟨h1,_⟩ | ⟨_,h1,h2,h3⟩
      · exact absurd HOK.out h1
      · exact ⟨h1,h2,h3⟩
    have hOb:=okB HOK.out
    have HD3:Hid (OwnT layDeskN w3 w2.heap.size w3.heap.size ⟨(s 0 + s 1).toNat,1⟩ [v3,.slice none 0 0,.slice none 0 0,.int .i64 0,.int .i64 1]):=by
      have e3:n3 = (s 0 + s 1).toNat:=by omega
      rw [← e3];exact own_ND 1 r3 l3 (fun h0 => by omega)
    have HT3:Hid (Two w w3 shq.toArray #[.int .i64 0,.int .i64 0,.int .i64 0,.int .i64 0,.int .i64 0,.int .i64 0,.int .i64 0,.int .i64 0,.int .i64 0,.int .i64 0,.int .i64 0,.slice none 0 0,.slice none 0 0,.slice none 0 0,.int .i64 0,.int .i64 0,.bool false,.slice none 0 0,.slice none 0 0,.slice none 0 0,.int .i64 0,.int .i64 0] 24 38):=HT2.out.call b3;have HW3:Hid (OwnT layWorld w3 w1.heap.size w2.heap.size (newW s) [.int .i64 ((newW s).shape 0),.int .i64 ((newW s).shape 1),.int .i64 ((newW s).shape 2),.int .i64 ((newW s).shape 3),.int .i64 ((newW s).shape 4),.int .i64 ((newW s).shape 5),.int .i64 ((newW s).shape 6),.int .i64 ((newW s).shape 7),.int .i64 ((newW s).shape 8),.slice ao1 (newW s).groups.1 cap1,.slice ao2 (newW s).on.1 cap2,.slice ao3 (newW s).tapes.1 cap3,.int .i64 (newW s).writes,.int .i64 (newW s).stop,.bool (newW s).down]):=HW2.out.call b3;have z3:w2.heap.size ≤ w3.heap.size:=b3.size;have HA3:Hid (OwnT layArchiveResult w3 w1.heap.size w3.heap.size ⟨0,0,⟨newW s,⟨(s 0 + s 1).toNat,1⟩⟩⟩ [.int .i64 0,.int .i64 0,.int .i64 ((newW s).shape 0),.int .i64 ((newW s).shape 1),.int .i64 ((newW s).shape 2),.int .i64 ((newW s).shape 3),.int .i64 ((newW s).shape 4),.int .i64 ((newW s).shape 5),.int .i64 ((newW s).shape 6),.int .i64 ((newW s).shape 7),.int .i64 ((newW s).shape 8),.slice ao1 (newW s).groups.1 cap1,.slice ao2 (newW s).on.1 cap2,.slice ao3 (newW s).tapes.1 cap3,.int .i64 (newW s).writes,.int .i64 (newW s).stop,.bool (newW s).down,v3,.slice none 0 0,.slice none 0 0,.int .i64 0,.int .i64 1]):=own_NA 0 0 (by decide) (by decide) HW3.out HD3.out z2 z3
    obtain ⟨a3,k3,rfl⟩:∃ a k,v3 = .slice a n3 k:=by
      obtain ⟨_,a,k,h,_⟩:=r3;exact ⟨a,k,h⟩
    clear HT2 HW2 b3 r3 l3 hd hn3 hOb HD3 HW3;refine wpAnyM_pureL (i:=5) (oi:=_) (v:=?_) rfl (by kernel_rfl) (fun _ _ _ h => h) (Or.inl ⟨by kernel_rfl,?_⟩) ?_
    rotate_left
    · intro w' hSw;go_simp;try with_reducible rfl
    try simp only [Act.put,SL]
    refine wpAnyM_pureL (i:=6) (oi:=_) (v:=?_) rfl (by kernel_rfl) (fun _ _ _ h => h) (Or.inl ⟨by kernel_rfl,?_⟩) ?_
    rotate_left
    · intro w' hSw;go_simp;try with_reducible rfl
    try simp only [Act.put,SL]
    refine wpAnyM_pureL (i:=7) (oi:=_) (v:=?_) rfl (by kernel_rfl) (fun _ _ _ h => h) (Or.inl ⟨by kernel_rfl,?_⟩) ?_
    rotate_left
    · intro w' hSw;go_simp;try with_reducible rfl
    try simp only [Act.put,SL]
    refine wpAnyM_one (i:=8) (o:=_) rfl (by kernel_rfl) (by kernel_rfl) (fun KC hKC => ?_);refine step_storeBoxN 38 _ _ rfl rfl (w.heap.size + 1) (by simp [Act.eval,Act.put]) (cs:=[.int .i64 0,.int .i64 0,.int .i64 ((newW s).shape 0),.int .i64 ((newW s).shape 1),.int .i64 ((newW s).shape 2),.int .i64 ((newW s).shape 3),.int .i64 ((newW s).shape 4),.int .i64 ((newW s).shape 5),.int .i64 ((newW s).shape 6),.int .i64 ((newW s).shape 7),.int .i64 ((newW s).shape 8),.slice ao1 (newW s).groups.1 cap1,.slice ao2 (newW s).on.1 cap2,.slice ao3 (newW s).tapes.1 cap3,.int .i64 (newW s).writes,.int .i64 (newW s).stop,.bool (newW s).down,.slice a3 n3 k3,.slice none 0 0,.slice none 0 0,.int .i64 0,.int .i64 1]) (old:=[.int .i64 0,.int .i64 0,.int .i64 0,.int .i64 0,.int .i64 0,.int .i64 0,.int .i64 0,.int .i64 0,.int .i64 0,.int .i64 0,.int .i64 0,.slice none 0 0,.slice none 0 0,.slice none 0 0,.int .i64 0,.int .i64 0,.bool false,.slice none 0 0,.slice none 0 0,.slice none 0 0,.int .i64 0,.int .i64 0]) (by simp [Act.eval,Act.put]) (HT3.out.b2) sizeN_AR rfl rfl (HA3.out.one) ?_;intro w9 X9 C9 z9;refine hKC _ _ ?_;clear hKC KC
    try simp only [Act.put,SL]
    refine wpAnyM_done (by kernel_rfl) ?_ _;go_wp2;refine ret_box Try.results6 rfl X9 Try.underlying38 sizeN_AR rfl rfl ?_;have zz:=C9.size;have O9:=(HA3.out.chgk C9 (fun b hb => by simp at hb;omega)).weaken (lo':=w.heap.size) (hi':=w9.heap.size) (by omega) zz;exact ⟨_,_,rfl,.inr ⟨HOK.out,rfl⟩,O9,HT3.out.bel.trans (C9.bel (fun b hb => by simp at hb;omega) HT3.out.bel.size)⟩
end Go.Proofs.Ytcepcjkfdonclaa