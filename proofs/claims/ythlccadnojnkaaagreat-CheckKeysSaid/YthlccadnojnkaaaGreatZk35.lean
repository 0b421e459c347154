import Derived.Test.YthlccadnojnkaaaGreatZk34
import Derived.Test.YthlccadnojnkaaaGreatZk24
import Derived.Test.YthlccadnojnkaaaGreatZk23
set_option maxHeartbeats 8000000
set_option maxRecDepth 100000
namespace Go.Proofs.YthlccadnojnkaaaGreat
open Go Go.RowKit Go.Shelf Go.Proofs Co Co.S
attribute [local go_sem] Oper.semAt_some
attribute [local go_sem] fV fW eD bT
theorem Dd.rows {W:World} {d:Nat} {ts:List T} {st:List DT} {O:Nat->Nat} (h:Dd W d ts st O) {j:Nat} (hj:j<ts.length) (hx:ts[j].nm.size<=maxLen) (hj':j<st.length):Calls Tryz.prog 62 #[.pointer (some ⟨d,0,none⟩),.string ts[j].nm] W fun e w'=>e=.returned (Value.pointer (some ⟨st[j].1,0,none⟩))/\w'=W:=by
 obtain⟨mv,f,n,k1,k2,k3,k4,k5⟩:=h.own
 have:=gK k1 k2 hx
 rw[k3 j hj hj'] at this;exact this
theorem Dd.dlt {W:World} {d:Nat} {ts:List T} {st:List DT} {O:Nat->Nat} (h:Dd W d ts st O):d<W.heap.size:=h.lt d (by rw[h.od];decide)
structure KyG (W:World) (B F G tb next:Nat) (t:T) (A:List R1) (lab:Nat->Nat) (u:T3) (cvv dvv:Value) (S:Nat->Prop) (w:World):Prop where
 tab:Tb w tb t next A lab
 sup:∀ b,lab b≠0->S b/\b<W.heap.size
 cv:w.heap[B]?=some (.cells #[.int .i64 u.1,.int .i64 u.2.1,.string u.2.2] 32)
 c1:w.heap[B+1]?=some (.cells #[.int .i64 0] 3)
 c2:w.heap[B+1+1]?=some (.cells #[.bool false] 4)
 cf:w.heap[F]?=some (.cells #[.string t.nm,cvv,.string t.key,dvv] 77)
 cg:w.heap[G]?=some (.cells #[(Value.pointer (some ⟨tb,0,none⟩))] 62)
 s1:S (B+1)
 s2:S (B+1+1)
 old:∀ b,b<W.heap.size->S b∨∃ cur e m,w.heap[b]?=some (.cells cur e m)
 bel:Below W.heap.size W w
structure KyX (W:World) (B:Nat) (A:List R1) (kc:Nat) (u:T3) (S:Nat->Prop) (w:World):Prop where
 res:∃ i,byRow A kc u=some i/\w.heap[B+1]?=some (.cells #[.int .i64 i] 3)
 c2:w.heap[B+1+1]?=some (.cells #[.bool true] 4)
 old:∀ b,b<W.heap.size->S b∨∃ cur e m,w.heap[b]?=some (.cells cur e m)
 bel:Below W.heap.size W w
section
variable {W A' B' w1 w2:World} {B F G tb next kc:Nat} {t:T} {A:List R1} {lab:Nat->Nat} {u:T3} {cvv dvv:Value} {S:Nat->Prop}
theorem lV (hb:∀ b,S b->B'.heap[b]?=A'.heap[b]?) (hkc:∀ (b:Nat) (cur:Array Value) (e:TypeId) (m:Nat×Nat),A'.heap[b]?=some (Obj.cells cur e m)->B'.heap[b]?=some (Obj.cells cur e m))
  (hsz:A'.heap.size<=B'.heap.size) (hos:B'.os=A'.os/\B'.tape=A'.tape/\B'.output=A'.output) (hold:∀ b,b<W.heap.size->S b∨∃ cur e m,A'.heap[b]?=some (.cells cur e m)) (hbel:Below W.heap.size W A') :
  (∀ b,b<W.heap.size->S b∨∃ cur e m,B'.heap[b]?=some (.cells cur e m))/\Below W.heap.size W B':=by
 refine⟨fun b hlt=>(hold b hlt).imp id (fun ⟨cur,e,m,he⟩=>⟨cur,e,m,hkc b cur e m he⟩),hbel.trans ⟨hos.1,hos.2.1,hos.2.2,hsz,fun b hlt=>?_⟩⟩;rcases hold b hlt with h4|⟨cur,e,m,h4⟩
 ·exact hb b h4
 rw[hkc b cur e m h4,h4]
theorem KyG.loc (h:KyG W B F G tb next t A lab u cvv dvv S A') (hsz:A'.heap.size<=B'.heap.size) (hb:∀ b,S b->B'.heap[b]?=A'.heap[b]?) (hkc:∀ (b:Nat) (cur:Array Value) (e:TypeId) (m:Nat×Nat),A'.heap[b]?=some (Obj.cells cur e m)->B'.heap[b]?=some (Obj.cells cur e m))
  (hos:B'.os=A'.os/\B'.tape=A'.tape/\B'.output=A'.output):KyG W B F G tb next t A lab u cvv dvv S B':=by
 have htn:Tn (fun b=>¬ S b) A' B':=⟨⟨hos.1,hos.2.1,hos.2.2,hsz,fun b _ hn=>hb b (Classical.not_not.1 hn)⟩,fun b cur e m h1 _=>hkc b cur e m h1⟩;obtain⟨k1,k2⟩:=lV hb hkc hsz hos h.old h.bel;exact⟨h.tab.tn htn (fun b hn=>Classical.byContradiction fun hl=>hn (h.sup b hl).1),h.sup,hkc _ _ _ _ h.cv,hkc _ _ _ _ h.c1,hkc _ _ _ _ h.c2,hkc _ _ _ _ h.cf,hkc _ _ _ _ h.cg,h.s1,h.s2,k1,k2⟩
theorem KyX.loc (h:KyX W B A kc u S A') (hsz:A'.heap.size<=B'.heap.size) (hb:∀ b,S b->B'.heap[b]?=A'.heap[b]?) (hkc:∀ (b:Nat) (cur:Array Value) (e:TypeId) (m:Nat×Nat),A'.heap[b]?=some (Obj.cells cur e m)->B'.heap[b]?=some (Obj.cells cur e m))
  (hos:B'.os=A'.os/\B'.tape=A'.tape/\B'.output=A'.output):KyX W B A kc u S B':=by
 obtain⟨k1,k2⟩:=lV hb hkc hsz hos h.old h.bel;obtain⟨i,r1,r2⟩:=h.res;exact⟨⟨i,r1,hkc _ _ _ _ r2⟩,hkc _ _ _ _ h.c2,k1,k2⟩
theorem KyG.round (h:KyG W B F G tb next t A lab u cvv dvv S w1) (hin:InW S w1) (hb:Below w1.heap.size w1 w2) :
  ∃ S2,Grows S S2 w1/\InW S2 w2/\Chg S w1 w2/\KyG W B F G tb next t A lab u cvv dvv S2 w2:=by
 have hz:=hb.size;refine⟨fun b=>S b∨(w1.heap.size<=b/\b<w2.heap.size),fun b hb=>hb.imp id (fun h=>h.1),fun b hb=>?_,?_,h.tab.later hb,fun b hb=>⟨.inl (h.sup b hb).1,(h.sup b hb).2⟩,aE hb h.cv,aE hb h.c1,aE hb h.c2,aE hb h.cf,aE hb h.cg,.inl h.s1,.inl h.s2,fun b hlt=>?_,aB h.bel hb⟩
 ·rcases hb with hb|hb
  ·have:=hin b hb;omega
  exact hb.2
 ·exact (Chg.of_below (S:=fun _=>False) hb).mono (fun _ _ h=>h.elim)
 rcases h.old b hlt with h5|⟨cur,e,m,h5⟩
 ·exact .inl (.inl h5)
 exact .inr ⟨cur,e,m,aE hb h5⟩
theorem KyG.found (h:KyG W B F G tb next t A lab u cvv dvv S w1) (hin:InW S w1) (hB:W.heap.size<=B) (hb:Below w1.heap.size w1 w2) {i:Int} (hi:byRow A kc u=some i) :
  ∃ S2,Grows S S2 w1/\InW S2 ((w2.setCell ⟨B+1,0,none⟩ (.int .i64 i)).setCell ⟨B+1+1,0,none⟩ (.bool true))/\Chg S w1 ((w2.setCell ⟨B+1,0,none⟩ (.int .i64 i)).setCell ⟨B+1+1,0,none⟩ (.bool true))/\KyX W B A kc u S2 ((w2.setCell ⟨B+1,0,none⟩ (.int .i64 i)).setCell ⟨B+1+1,0,none⟩ (.bool true)):=by
 obtain⟨S2,h1,h2,h3,h4⟩:=h.round hin hb;have k1:=heap_setCell_same w2 (B+1) 0 #[.int .i64 0] 3 (.int .i64 i) h4.c1;have k2:(w2.setCell ⟨B+1,0,none⟩ (.int .i64 i)).heap[B+1+1]?=_:=(heap_setCell_other w2 ⟨B+1,0,none⟩ (B+1+1) _ (by show B+1+1≠B+1;omega)).trans h4.c2;have k3:=heap_setCell_same (w2.setCell ⟨B+1,0,none⟩ (.int .i64 i)) (B+1+1) 0 #[.bool false] 4 (.bool true) k2;have k4:((w2.setCell ⟨B+1,0,none⟩ (.int .i64 i)).setCell ⟨B+1+1,0,none⟩ (.bool true)).heap[B+1]?=_:=(heap_setCell_other (w2.setCell ⟨B+1,0,none⟩ (.int .i64 i)) ⟨B+1+1,0,none⟩ (B+1) _ (by show B+1≠B+1+1;omega)).trans k1;have hsz:((w2.setCell ⟨B+1,0,none⟩ (.int .i64 i)).setCell ⟨B+1+1,0,none⟩ (.bool true)).heap.size=w2.heap.size:=(by simp);refine⟨S2,h1,fun b hb=>by rw[hsz];exact h2 b hb,(h3.setCell (p:=⟨B+1,0,none⟩) (fun _=>h.s1) _).setCell (p:=⟨B+1+1,0,none⟩) (fun _=>h.s2) _,⟨i,hi,k4⟩,k3,fun b hlt=>?_,(h4.bel.setCell (p:=⟨B+1,0,none⟩) (by show W.heap.size<=B+1;omega) _).setCell (p:=⟨B+1+1,0,none⟩) (by show W.heap.size<=B+1+1;omega) _⟩;rcases h4.old b hlt with h5|⟨cur,e,m,h5⟩
 ·exact .inl h5
 refine .inr ⟨cur,e,m,?_⟩;rw[heap_setCell_other (w2.setCell ⟨B+1,0,none⟩ (.int .i64 i)) ⟨B+1+1,0,none⟩ b _ (by show b≠B+1+1;omega),heap_setCell_other w2 ⟨B+1,0,none⟩ b _ (by show b≠B+1;omega)];exact h5
end
attribute [local go_sem] Oper.semAt_some
attribute [local go_sem] fV fW eD bT
theorem uA {w:World} {a:Addr} {v:Value} (h:w.cell? a=some v):a.block<w.heap.size:=by
 rcases Nat.lt_or_ge a.block w.heap.size with h' | h'
 ·exact h'
 exfalso;simp[World.cell?,Array.getElem?_eq_none h'] at h
theorem uB {W:World} {d:Nat} {ts:List T} {st:List DT} {O:Nat->Nat} (h:Dd W d ts st O) (hfew:AllFew ts) {j:Nat} (hj:j<ts.length) (hj':j<st.length) (hx:ts[j].nm.size<=maxLen) (hf:findT ts ts[j].nm=some ts[j]) (hk0:ts[j].key≠e0) {kc:Nat} (hkc:kc<ts[j].cols.length) (hix:ixC ts[j].cols ts[j].key=(kc:Int)) (u:T3) (hu:u.1≠0) :
  Calls Tryz.prog 100 #[.pointer (some ⟨d,0,none⟩),.string ts[j].nm,.agg #[.int .i64 (u.1),.int .i64 (u.2.1),.string (u.2.2)]] W fun e w'=>e=.returned (.tuple #[.int .i64 ((byRow st[j].2.2 kc u).getD 0),.bool (byRow st[j].2.2 kc u).isSome])/\Below W.heap.size W w':=by
 have hb0:=aD W (.cells #[.int .i64 u.1,.int .i64 u.2.1,.string u.2.2] 32);have k0:=heap_alloc_new W (.cells #[.int .i64 u.1,.int .i64 u.2.1,.string u.2.2] 32);have hb1:=aD (W.alloc (.cells #[.int .i64 u.1,.int .i64 u.2.1,.string u.2.2] 32)) (.cells #[.int .i64 0] 3);have k1:=heap_alloc_new (W.alloc (.cells #[.int .i64 u.1,.int .i64 u.2.1,.string u.2.2] 32)) (.cells #[.int .i64 0] 3);have hb2:=aD ((W.alloc (.cells #[.int .i64 u.1,.int .i64 u.2.1,.string u.2.2] 32)).alloc (.cells #[.int .i64 0] 3)) (.cells #[.bool false] 4);have k2:=heap_alloc_new ((W.alloc (.cells #[.int .i64 u.1,.int .i64 u.2.1,.string u.2.2] 32)).alloc (.cells #[.int .i64 0] 3)) (.cells #[.bool false] 4);have k0:=aE hb2 (aE hb1 k0);have k1:=aE hb2 k1;have hb2:=aB (aB hb0 hb1) hb2;obtain⟨w1,hw1⟩:∃ w1,((W.alloc (.cells #[.int .i64 u.1,.int .i64 u.2.1,.string u.2.2] 32)).alloc (.cells #[.int .i64 0] 3)).alloc (.cells #[.bool false] 4)=w1:=⟨_,rfl⟩;obtain⟨B,hB⟩:∃ B,W.heap.size=B:=⟨_,rfl⟩;simp only[World.size_alloc] at k1 k2;rw[hw1] at hb2 k0 k1 k2;rw[hB] at k0 k1 k2;have h1:Dd w1 d ts st O:=h.later hb2;have hs:=bF (W:=w1) h1.dlt
 have hfi:Calls Tryz.prog 45 #[.pointer (some ⟨d,0,none⟩),.string ts[j].nm] w1 (GivesT (orT (findT ts ts[j].nm)) (hasT ts ts[j].nm) w1):=by
  obtain⟨mv,f,n0,q1,_⟩:=h1.own;exact eP (x:=ts[j].nm) q1.p hfew
 have hok:hasT ts ts[j].nm=true:=(by rw[dK,hf];rfl);rw[hf,hok,show orT (some ts[j])=ts[j] from rfl] at hfi;have HDD:Hid (∀ w,Below w1.heap.size w1 w->Dd w d ts st O):=qAq (fun w hw=>h1.later hw);have HROWS:Hid (∀ w,Below w1.heap.size w1 w->Calls Tryz.prog 62 #[.pointer (some ⟨d,0,none⟩),.string ts[j].nm] w fun e w'=>e=.returned (Value.pointer (some ⟨st[j].1,0,none⟩))/\w'=w):=qAq (fun w hw=>(h1.later hw).rows hj hx hj');obtain⟨lab,ht0,_⟩:=h.tab j hj hj';have hlW:∀ b,lab b≠0->b<W.heap.size:=ht0.lt;have HTB:Hid (∀ w,Below w1.heap.size w1 w->Tb w st[j].1 ts[j] st[j].2.1 st[j].2.2 lab):=qAq (fun w hw=>(ht0.later hb2).later hw);have hlen:∀ a∈st[j].2.2,a.2.length=ts[j].cols.length:=(fun a ha=>ht0.len a ha);have hsrt:st[j].2.2.Pairwise (fun a b=>a.1<b.1):=(by obtain⟨i0,_,hi⟩:=ht0;exact hi.srt);obtain⟨t,ht⟩:∃ t,ts[j]=t:=⟨_,rfl⟩;obtain⟨sj,hsj⟩:∃ s,st[j]=s:=⟨_,rfl⟩;simp only[ht,hsj] at hs hfi HROWS HTB hlen hsrt hk0 hkc hix hx ⊢;obtain⟨tb,next,A⟩:=sj;dsimp only at HROWS HTB hlen hsrt ⊢;have HW:=qAq (qBq hw1 (qBq hB (qBq hb2 (qBq k0 (qBq k1 k2)))));have HA:=qAq (qBq hlen (qBq hsrt (qBq hlW (qBq hkc hix))));obtain⟨res,hres⟩:∃ r,byRow A kc u=r:=⟨_,rfl⟩;rw[hres];have HRES:=qAq hres;clear hw1 hB hb0 hb1 hb2 k0 k1 k2 h h1 hfew hf hok HDD ht0 hlen hsrt hlW hkc hix hres ht hsj hx;have hke:=jL hk0;have hub:(u.1==0)=false:=beq_eq_false_iff_ne.2 hu;refine (callsIn_wide (n:=0)).1 ?_;refine callsIn_of_wp_marks Tryz.func100 rfl trivial ?_ rfl;simp only[Tryz.ntmps100,List.size_toArray,List.length_cons,List.length_nil,Nat.reduceAdd,Nat.reduceSub,Array.replicate_succ,Array.replicate_zero,List.push_toArray,List.append_toArray,List.nil_append,List.cons_append];refine wpIn_wide.2 ?_;go_upto_region 1 with fail;rw[HW.out.1,HW.out.2.1]
 go_upto_region 2 with (first
  | (go_at_call 43;(with_reducible refine hs.mono ?_);rintro e w2 ⟨rfl,hw⟩;subst w2;clear hs)
  | (go_at_call 45;(with_reducible refine hfi.mono ?_);rintro e w3 ⟨p1,n1,c1,p2,n2,c2,rfl,_,hb3⟩;have hb4:=aD w3 (.cells #[.string t.nm,.slice p1 n1 c1,.string t.key,.slice p2 n2 c2] 77);have ka:=heap_alloc_new w3 (.cells #[.string t.nm,.slice p1 n1 c1,.string t.key,.slice p2 n2 c2] 77);have H3:=qAq (qBq (aB hb3 hb4) ka);clear hfi hb3 hb4 ka))
 obtain⟨w4,hw4⟩:∃ w4,w3.alloc (.cells #[.string t.nm,.slice p1 n1 c1,.string t.key,.slice p2 n2 c2] 77)=w4:=⟨_,rfl⟩;obtain⟨F,hF⟩:∃ F,w3.heap.size=F:=⟨_,rfl⟩;have hF4:F<w4.heap.size:=(by rw[<- hw4,<- hF,World.size_alloc];exact Nat.lt_succ_self _);rw[hw4,hF] at H3;rw[hw4,hF];clear hw4 hF;obtain⟨m0,m4⟩:=H3.out;have hrow:=HROWS.out w4 m0;have m1:=aE m0 HW.out.2.2.2.1;have z2:=aA m4 2;have v0:=aA m1 0;have l2:=aC m4;have l3:=aC m1;clear m0 m1 m4;go_upto_region 4 with fail;clear z2 v0 l2 l3;go_upto_region 5 with (go_at_call 62;(with_reducible refine hrow.mono ?_);rintro e w5 ⟨rfl,hw⟩;subst w5;clear hrow);have hb5:=aD w4 (.cells #[(Value.pointer (some ⟨tb,0,none⟩))] 62);have k5:=heap_alloc_new w4 (.cells #[(Value.pointer (some ⟨tb,0,none⟩))] 62);obtain⟨w5,hw5⟩:∃ w5,w4.alloc (.cells #[(Value.pointer (some ⟨tb,0,none⟩))] 62)=w5:=⟨_,rfl⟩;obtain⟨G,hG⟩:∃ G,w4.heap.size=G:=⟨_,rfl⟩;rw[hw5] at hb5 k5;rw[hG] at k5;have hb15:=aB H3.out.1 hb5
 have HC5:Hid (∀ w,Below w5.heap.size w5 w->w.heap[B]?=some (.cells #[.int .i64 u.1,.int .i64 u.2.1,.string u.2.2] 32)/\w.heap[B+1]?=some (.cells #[.int .i64 0] 3)/\w.heap[B+1+1]?=some (.cells #[.bool false] 4)/\w.heap[F]?=some (.cells #[.string t.nm,.slice p1 n1 c1,.string t.key,.slice p2 n2 c2] 77)/\w.heap[G]?=some (.cells #[(Value.pointer (some ⟨tb,0,none⟩))] 62)/\Below W.heap.size W w/\Tb w tb t next A lab):=qAq (fun w hw=>by
  have hb:=aB hb15 hw;exact⟨aE hb HW.out.2.2.2.1,aE hb HW.out.2.2.2.2.1,aE hb HW.out.2.2.2.2.2,aE hw (aE hb5 H3.out.2),aE hw k5,aB HW.out.2.2.1 hb,HTB.out w hb⟩)
 rw[hw5,hG];have y1:=aA k5 0;have yl:=aC k5;have hlive:Calls Tryz.prog 52 #[.pointer (some ⟨tb,0,none⟩)] w5 (IsV (idsP A) w5):=fD (HC5.out w5 (Below.refl _ _)).2.2.2.2.2.2;have hBW:W.heap.size=B:=HW.out.2.1;have hW5:W.heap.size<=w5.heap.size:=(HC5.out w5 (Below.refl _ _)).2.2.2.2.2.1.size;clear hb5 k5 hw5 hG hb15 hF4;refine (wpIn_wide (n:=0)).1 ?_
 gi_wp2_with (gi_at_call 52;refine aL rfl ?_;(with_reducible refine hlive.mono ?_);rintro e w6 ⟨pl,nl,cl,rfl,hvl,hb6⟩)
 obtain⟨lr,hmv,hnl,hil⟩:=hvl;have h37:=gA hmv;have hA:=jG hnl hil HA.out.2.1;have hc6:=Cell.new w6 (.slice pl nl cl) 102
 gi_wp2_with (gi_at_call 83;refine aL rfl ?_;(with_reducible refine h37.mono ?_);rintro e w7 ⟨rfl,hw7⟩)
 obtain⟨c,hc⟩:∃ c,w6.heap.size=c:=⟨_,rfl⟩;obtain⟨xs,hxs⟩:∃ xs:List Int,A.map (·.1)=xs:=⟨_,rfl⟩;have hxl:xs.length=A.length:=(by rw[<- hxs,List.length_map]);rw[hc] at hc6
 try rw[hc]
 rw[hxs] at hA;have hb7:Below w6.heap.size w6 w7:=(by rw[hw7];exact aD w6 _);have hz7:w7.heap.size=c+1:=(by rw[hw7];simp[hc]);rw[<- hw7] at hc6
 try rw[<- hw7]
 clear hw7 h37 hlive y1 yl;have hb57:Below w5.heap.size w5 w7:=aB hb6 hb7;have hmv7:=hmv.later hb7;have hz5:w5.heap.size<=c:=(by have:=hb6.size;omega);obtain⟨a0,a1,a2,a3,a4,a5,a6⟩:=HC5.out w7 hb57;obtain⟨iT,o1,o2⟩:=a6;obtain⟨labU,u1,u2⟩:=o1.dropV hmv7
 have hown:∀ {b:Nat} {cur:Array Value} {e:TypeId} {m:Nat×Nat},w7.heap[b]?=some (Obj.cells cur e m)->e≠146->(Value.slice pl nl cl).ownBlock≠some b:=fun hb he e=>by
  obtain⟨_,cur,h1⟩:=HRow.block hmv7 _ e;rw[h1] at hb;simp only[Option.some.injEq,Obj.cells.injEq] at hb;exact he hb.2.1.symm
 have h0:KyG W B F G tb next t A labU u (.slice p1 n1 c1) (.slice p2 n2 c2) (fun b=>b<w7.heap.size/\b≠c/\(Value.slice pl nl cl).ownBlock≠some b) w7:=by
  have e1:=aC (HC5.out w5 (Below.refl _ _)).2.1;have e2:=aC (HC5.out w5 (Below.refl _ _)).2.2.1;refine⟨⟨iT,u1,o2⟩,fun b hb=>?_,a0,a1,a2,a3,a4,⟨by omega,by omega,hown a1 (by decide)⟩,⟨by omega,by omega,hown a2 (by decide)⟩,fun b hb=>?_,a5⟩
  ·obtain⟨k1,k2⟩:=u2 b hb;have k3:=HA.out.2.2.1 b k1;exact⟨⟨by omega,by omega,k2⟩,k3⟩
  by_cases e:(Value.slice pl nl cl).ownBlock=some b
  ·obtain⟨_,cur,h1⟩:=HRow.block hmv7 b e;exact .inr ⟨cur,_,_,h1⟩
  exact .inl ⟨by omega,by omega,e⟩
 have hgv:=Kc.all_gives c hnl w7 hmv7;rw[hA] at hgv;generalize hact:({ tmps:=_,defers:=_ }:Act)=act;have hvb:∀ b,(Value.slice pl nl cl).ownBlock=some b->b<w7.heap.size:=(fun b hb=>(HRow.lt hmv7 b hb).2);clear hb7 hmv hb57 u1 u2 o1 o2 hil hb6 a0 a1 a2 a3 a4 a5;refine (wpIn_wide (n:=0)).1 ?_;refine wpIn_block ?_
 refine Kc.wpIn_rangeFunc_sep (sv:=.func (.func 119) #[] #[(Value.pointer (some ⟨c,0,none⟩))]) (by rw[<- hact];rfl) hgv (fun _=>rfl)
  (fun k S w=>KyG W B F G tb next t A labU u (.slice p1 n1 c1) (.slice p2 n2 c2) S w/\∀ m (hm:m<A.length),m<k->A[m].2.getD kc z3≠u) (fun cd _ S w=>cd=.ret/\KyX W B A kc u S w) ?l1 ?l2 _ ?hS ?hM ?hSM ⟨hc6,hmv7⟩ ⟨h0,fun m _ hm=>absurd hm (Nat.not_lt_zero m)⟩
  (fun x=>{ tmps:=(act.tmps.setIfInBounds 35 ((Value.int .i64 (x)))).setIfInBounds 11 ((Value.int .i64 (x))),defers:=[] }) ?pre ?body ?done ?stop
 case l1=>exact fun k T A B h hin hsz hb hkc hos=>⟨h.1.loc hsz hb hkc hos,h.2⟩
 case l2=>exact fun cd k T A B h hin hsz hb hkc hos=>⟨h.1,h.2.loc hsz hb hkc hos⟩
 case hS=>exact fun b hb=>hb.1
 case hM =>
  rintro b (rfl|h)
  ·omega
  exact hvb b h
 case hSM =>
  rintro b hb (h|h)
  ·exact hb.2.1 h
  exact hb.2.2 h
 case pre =>
  intro l x W K hK;subst hact;dsimp only[enc1]
  gi_wp2
  exact hK
 case body =>
  rintro l k hk T W1 hin hchg ⟨hG,hno⟩;have hk':k<A.length:=(by rw[<- hxl];exact hk);have hxk:xs[k]=A[k].1:=(by simp only[<- hxs,List.getElem_map]);rw[hxk];have hAl:=HA.out.1 _ (List.getElem_mem hk');have hkA:kc<A[k].2.length:=(by rw[hAl];exact HA.out.2.2.2.1);obtain⟨v,hv⟩:∃ v,A[k].2[kc]=v:=⟨_,rfl⟩;have hvD:A[k].2.getD kc z3=v:=(by rw[List.getD_eq_getElem?_getD,List.getElem?_eq_getElem hkA,hv];rfl);have hget:=iC hG.tab (List.getElem_mem hk') HA.out.2.2.2.1 HA.out.2.2.2.2 (by rw[List.getElem?_eq_getElem hkA,hv]);have heq:=(fun w=>zX v u w);obtain⟨ik,hik⟩:∃ i,A[k].1=i:=⟨_,rfl⟩;rw[hik] at hget ⊢;have y1:=aA hG.cg 0;have y2:=aA hG.cf 2;have y3:=aC hG.cf;have HGG:=qAq (qBq hG (qBq hin (qBq hno (qBq hk' (qBq hvD hik)))));subst hact;dsimp only;clear hG hin hchg h0 hno hAl hkA hv hvD hik hxk
  gi_wp2_with (gi_at_call 132;refine aL rfl ?_;(with_reducible refine hget.mono ?_);rintro e w8 ⟨rfl,hb8⟩;have v0:=aA (aE hb8 HGG.out.1.cv) 0;have v1:=aA (aE hb8 HGG.out.1.cv) 1;have v2:=aA (aE hb8 HGG.out.1.cv) 2;have vl:=aC (aE hb8 HGG.out.1.cv);have HB8:=qAq (aB hb8 (aD w8 (.cells #[.int .i64 v.1,.int .i64 v.2.1,.string v.2.2] 32)));clear hb8 hget y1 y2 y3)
  by_cases hvu:v=u
  ·rw[decide_eq_true hvu] at heq;have HVU:=qAq hvu;clear hvu
   gi_wp2_with (gi_at_call 134;refine aL rfl ?_;(with_reducible refine (heq _).mono ?_);rintro e w9 ⟨rfl,hb9⟩;have HB9:=qAq (aB HB8.out hb9);have r0:=aA (aE HB9.out HGG.out.1.c1) 0;have r1:=aA (aE HB9.out HGG.out.1.c2) 0;have f0:=fun i=>frozen_of_row w9 (B+1) i _ _ (aE HB9.out HGG.out.1.c1);have f1:=fun i=>frozen_of_row w9 (B+1+1) i _ _ (aE HB9.out HGG.out.1.c2);have l0:=aC (aE HB9.out HGG.out.1.c1);have l1:=aC (aE HB9.out HGG.out.1.c2);clear hb9 heq v0 v1 v2 vl)
   obtain⟨hG,hin,hno,hk',hvD,hik⟩:=HGG.out;have hby:byRow A kc u=some ik:=(by rw[<- hik];exact nM hk' (hvD.trans HVU.out) hno);obtain⟨S2,q1,q2,q3,q4⟩:=hG.found hin (Nat.le_of_eq hBW) HB9.out hby
   exact⟨S2,q1,q2,q3,rfl,q4⟩
  rw[decide_eq_false hvu] at heq;have HVU:=qAq hvu;clear hvu
  gi_wp2_with (gi_at_call 134;refine aL rfl ?_;(with_reducible refine (heq _).mono ?_);rintro e w9 ⟨rfl,hb9⟩;have HB9:=qAq (aB HB8.out hb9);clear hb9 heq v0 v1 v2 vl)
  obtain⟨hG,hin,hno,hk',hvD,hik⟩:=HGG.out;obtain⟨S2,q1,q2,q3,q4⟩:=hG.round hin HB9.out
  exact⟨S2,q1,q2,q3,q4,fun m hm hmk=>by
   by_cases em:m=k
   ·subst em;rw[hvD];exact HVU.out
   exact hno m hm (by omega)⟩
 case done =>
  rintro S' W' hg hi hch ⟨hG,hno⟩ hQ hK hnD;subst hact;have hby:byRow A kc u=none:=nL (fun m hm=>hno m hm (by rw[hxl];exact hm));have r0:=aA hG.c1 0;have r1:=aA hG.c2 0;have f0:=(fun i=>frozen_of_row W' (B+1) i _ _ hG.c1);have f1:=(fun i=>frozen_of_row W' (B+1+1) i _ _ hG.c2);have l0:=aC hG.c1;have l1:=aC hG.c2;have HGG:=qAq (qBq hG (qBq hK (qBq hnD hby)));clear hG hg hi hch hQ hnD hno hK hby
  gi_wp2_with fail
  refine (wpIn_wide (n:=0)).1 ?_
  gi_wp2_with fail
  obtain⟨hG,hK,hnD,hby⟩:=HGG.out;obtain⟨y0,y1⟩:=aAf (u:=.int .i64 0) (v:=.bool false) hG.c1 hG.c2 (by omega);have hD1:W'.heap[w7.heap.size]?=some (.deferred (some [])):=hK;have hne1:w7.heap.size≠B+1:=(fun e=>by rw[e,hG.c1] at hK;cases hK);have hne2:w7.heap.size≠B+1+1:=fun e=>by rw[e,hG.c2] at hK;cases hK
  have hK2:((W'.setCell ⟨B+1,0,none⟩ (.int .i64 0)).setCell ⟨B+1+1,0,none⟩ (.bool false)).heap[w7.heap.size]?=some (.deferred (some [])):=by
   rw[heap_setCell_other (W'.setCell ⟨B+1,0,none⟩ (.int .i64 0)) ⟨B+1+1,0,none⟩ _ _ hne2,heap_setCell_other W' ⟨B+1,0,none⟩ _ _ hne1];exact hK
  have hbel:Below W.heap.size W ((W'.setCell ⟨B+1,0,none⟩ (.int .i64 0)).setCell ⟨B+1+1,0,none⟩ (.bool false)):=(hG.bel.setCell (p:=⟨B+1,0,none⟩) (by show W.heap.size<=B+1;omega) _).setCell (p:=⟨B+1+1,0,none⟩) (by show W.heap.size<=B+1+1;omega) _;generalize ((W'.setCell ⟨B+1,0,none⟩ (.int .i64 0)).setCell ⟨B+1+1,0,none⟩ (.bool false))=wz at y0 y1 hK2 hbel ⊢;refine fE (v:=.tuple #[.int .i64 0,.bool false]) hK2 (fun w' hch hsz=>?_);have e0':=(hch.block (B+1) (uA y0) (fun e=>hne1 e.symm));have e1':=(hch.block (B+1+1) (uA y1) (fun e=>hne2 e.symm));have z0:=(World.cell?_of_block (a:=⟨B+1,0,none⟩) e0').trans y0;have z1:=(World.cell?_of_block (a:=⟨B+1+1,0,none⟩) e1').trans y1;refine⟨by simp[results,Tryz.results100,go_sem,z0,z1],?_⟩;have hr:=HRES.out;rw[hby] at hr;subst hr;refine⟨rfl,hbel.trans (hch.below hbel.size (fun b hb e=>?_))⟩;omega
 rintro cd k S' W' hk0 hkl hg hi hch ⟨rfl,hX⟩ hQ hK hnD;subst hact;have HGG:=qAq (qBq hX (qBq hK hnD));clear hX hg hi hch hQ hnD hK
 gi_wp2_with fail
 obtain⟨hX,hK,hnD⟩:=HGG.out;obtain⟨i,hi1,hi2⟩:=hX.res;have y0:=aA hi2 0;have y1:=aA hX.c2 0;have hne1:w7.heap.size≠B+1:=(fun e=>by rw[e,hi2] at hK;cases hK);have hne2:w7.heap.size≠B+1+1:=(fun e=>by rw[e,hX.c2] at hK;cases hK);refine fE (v:=.tuple #[.int .i64 i,.bool true]) hK (fun w' hch hsz=>?_);have z0:=aA ((hch.block (B+1) (aC hi2) (fun e=>hne1 e.symm)).trans hi2) 0;have z1:=aA ((hch.block (B+1+1) (aC hX.c2) (fun e=>hne2 e.symm)).trans hX.c2) 0;refine⟨by simp[results,Tryz.results100,go_sem,z0,z1],?_⟩;have hr:=HRES.out;rw[hi1] at hr;subst hr;refine⟨rfl,hX.bel.trans (hch.below hX.bel.size (fun b hb e=>?_))⟩;omega
