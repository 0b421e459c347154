import Derived.Test.YthlccadnojnkaaaGreatZn34
set_option maxHeartbeats 8000000
set_option maxRecDepth 100000
namespace Go.Proofs.YthlccadnojnkaaaGreat
open Go.Proofs.Tryz
open Go Go.RowKit Go.Shelf Go.Proofs Co Co.S
attribute [local go_sem] Oper.semAt_some
attribute [local go_sem] fV fW eD bT
theorem Dd.rows{W:World}{d:Nat}{ts:List T}{st:List DT}{O:Nat->Nat}(h:Dd W d ts st O){j:Nat}(hj:j<ts.length)(hx:ts[j].nm.size<=maxLen)(hj':j<st.length):Calls prog 62 #[.pointer (some ⟨d,0,none⟩),.string ts[j].nm] W fun e a=>e=.returned (.pointer (some ⟨st[j].1,0,none⟩))/\a=W:=by
 obtain⟨mv,f,n,b,c,g,i,k⟩:=h.own
 have:=gK b c hx
 rw[g j hj hj']at this;exact this
theorem Dd.dlt{W:World}{d:Nat}{ts:List T}{st:List DT}{O:Nat->Nat}(h:Dd W d ts st O):d<W.heap.size:=h.lt d (by rw[h.od];decide)
structure Az (W:World) (B F G tb next:Nat) (t:T) (A:List R1) (lab:Nat->Nat) (u:T3) (cvv dvv:Value) (S:Nat->Prop) (w:World):Prop where
 tab:Tb w tb t next A lab
 sup:∀b,lab b≠0->S b/\b<W.heap.size
 cv:w.heap[B]?=some (.cells #[.int .i64 u.1,.int .i64 u.2.1,.string u.2.2] 32)
 c1:w.heap[B+1]?=some (.cells #[.int .i64 0] 3)
 c2:w.heap[B+1+1]?=some (.cells #[.bool false] 4)
 cf:w.heap[F]?=some (.cells #[.string t.nm,cvv,.string t.key,dvv] 77)
 cg:w.heap[G]?=some (.cells #[.pointer (some ⟨tb,0,none⟩)] 62)
 s1:S (B+1)
 s2:S (B+1+1)
 old:∀b,b<W.heap.size->S b∨∃cur e m,w.heap[b]?=some (.cells cur e m)
 bel:Below W.heap.size W w
structure Bt (W:World) (B:Nat) (A:List R1) (kc:Nat) (u:T3) (S:Nat->Prop) (w:World):Prop where
 res:∃i,jg A kc u=some i/\w.heap[B+1]?=some (.cells #[.int .i64 i] 3)
 c2:w.heap[B+1+1]?=some (.cells #[.bool true] 4)
 old:∀b,b<W.heap.size->S b∨∃cur e m,w.heap[b]?=some (.cells cur e m)
 bel:Below W.heap.size W w
section
variable {W A' B' w1 w2:World}{B F G tb next kc:Nat}{t:T}{A:List R1}{lab:Nat->Nat}{u:T3}{cvv dvv:Value}{S:Nat->Prop}
theorem lV(hb:∀b,S b->B'.heap[b]?=A'.heap[b]?)(hkc:∀(b:Nat) (a:Array Value) (e:TypeId) (m:Nat×Nat),A'.heap[b]?=some (Obj.cells a e m)->B'.heap[b]?=some (Obj.cells a e m))(hsz:A'.heap.size<=B'.heap.size)(hos:B'.os=A'.os/\B'.tape=A'.tape/\B'.output=A'.output)(hold:∀b,b<W.heap.size->S b∨∃a e m,A'.heap[b]?=some (.cells a e m))(hbel:Below W.heap.size W A'):(∀b,b<W.heap.size->S b∨∃a e m,B'.heap[b]?=some (.cells a e m))/\Below W.heap.size W B':=by
 refine⟨fun b c=>(hold b c).imp id (fun⟨a,e,m,he⟩=>⟨a,e,m,hkc b a e m he⟩),hbel.trans ⟨hos.1,hos.2.1,hos.2.2,hsz,fun b c=>?_⟩⟩;rcases hold b c with d|⟨a,e,m,d⟩
 ·exact hb b d
 rw[hkc b a e m d,d]
theorem Az.loc(h:Az W B F G tb next t A lab u cvv dvv S A')(hsz:A'.heap.size<=B'.heap.size)(hb:∀b,S b->B'.heap[b]?=A'.heap[b]?)(hkc:∀(b:Nat) (a:Array Value) (e:TypeId) (m:Nat×Nat),A'.heap[b]?=some (Obj.cells a e m)->B'.heap[b]?=some (Obj.cells a e m))(hos:B'.os=A'.os/\B'.tape=A'.tape/\B'.output=A'.output):Az W B F G tb next t A lab u cvv dvv S B':=by
 have c:Tn (fun b=>¬ S b) A' B':=⟨⟨hos.1,hos.2.1,hos.2.2,hsz,fun b _ d=>hb b (Classical.not_not.1 d)⟩,fun b a e m f _=>hkc b a e m f⟩;obtain⟨g,i⟩:=lV hb hkc hsz hos h.old h.bel;exact⟨h.tab.tn c (fun b d=>Classical.byContradiction fun j=>d (h.sup b j).1),h.sup,hkc _ _ _ _ h.cv,hkc _ _ _ _ h.c1,hkc _ _ _ _ h.c2,hkc _ _ _ _ h.cf,hkc _ _ _ _ h.cg,h.s1,h.s2,g,i⟩
theorem Bt.loc(h:Bt W B A kc u S A')(hsz:A'.heap.size<=B'.heap.size)(hb:∀b,S b->B'.heap[b]?=A'.heap[b]?)(hkc:∀(b:Nat) (a:Array Value) (e:TypeId) (m:Nat×Nat),A'.heap[b]?=some (Obj.cells a e m)->B'.heap[b]?=some (Obj.cells a e m))(hos:B'.os=A'.os/\B'.tape=A'.tape/\B'.output=A'.output):Bt W B A kc u S B':=by
 obtain⟨c,d⟩:=lV hb hkc hsz hos h.old h.bel;obtain⟨i,r1,f⟩:=h.res;exact⟨⟨i,r1,hkc _ _ _ _ f⟩,hkc _ _ _ _ h.c2,c,d⟩
theorem Az.round(h:Az W B F G tb next t A lab u cvv dvv S w1)(hin:ie S w1)(a:Below w1.heap.size w1 w2):∃c,Grows S c w1/\ie c w2/\Chg S w1 w2/\Az W B F G tb next t A lab u cvv dvv c w2:=by
 have i:=a.size;refine⟨fun b=>S b∨(w1.heap.size<=b/\b<w2.heap.size),fun b a=>a.imp id (fun h=>h.1),fun b a=>?_,?_,h.tab.later a,fun b a=>⟨.inl (h.sup b a).1,(h.sup b a).2⟩,aE a h.cv,aE a h.c1,aE a h.c2,aE a h.cf,aE a h.cg,.inl h.s1,.inl h.s2,fun b d=>?_,aB h.bel a⟩
 ·rcases a with a|a
  ·have:=hin b a;omega
  exact a.2
 ·exact(Chg.of_below (S:=fun _=>False) a).mono (fun _ _ h=>h.elim)
 rcases h.old b d with f|⟨g,e,m,f⟩
 ·exact .inl (.inl f)
 exact .inr ⟨g,e,m,aE a f⟩
theorem Az.found(h:Az W B F G tb next t A lab u cvv dvv S w1)(hin:ie S w1)(hB:W.heap.size<=B)(d:Below w1.heap.size w1 w2){i:Int}(hi:jg A kc u=some i):∃a,Grows S a w1/\ie a ((w2.setCell ⟨B+1,0,none⟩ (.int .i64 i)).setCell ⟨B+1+1,0,none⟩ (.bool true))/\Chg S w1 ((w2.setCell ⟨B+1,0,none⟩ (.int .i64 i)).setCell ⟨B+1+1,0,none⟩ (.bool true))/\Bt W B A kc u a ((w2.setCell ⟨B+1,0,none⟩ (.int .i64 i)).setCell ⟨B+1+1,0,none⟩ (.bool true)):=by
 obtain⟨a,l,n,o,c⟩:=h.round hin d;have q:=y9 w2 (B+1) 0 #[.int .i64 0] 3 (.int .i64 i) c.c1;have r:(w2.setCell ⟨B+1,0,none⟩ (.int .i64 i)).heap[B+1+1]?=_:=(yd w2 ⟨B+1,0,none⟩ (B+1+1) _ (by show B+1+1≠B+1;omega)).trans c.c2;have s:=y9 (w2.setCell ⟨B+1,0,none⟩ (.int .i64 i)) (B+1+1) 0 #[.bool false] 4 (.bool true) r;have v:((w2.setCell ⟨B+1,0,none⟩ (.int .i64 i)).setCell ⟨B+1+1,0,none⟩ (.bool true)).heap[B+1]?=_:=(yd (w2.setCell ⟨B+1,0,none⟩ (.int .i64 i)) ⟨B+1+1,0,none⟩ (B+1) _ (by show B+1≠B+1+1;omega)).trans q;have f:((w2.setCell ⟨B+1,0,none⟩ (.int .i64 i)).setCell ⟨B+1+1,0,none⟩ (.bool true)).heap.size=w2.heap.size:=(by simp);refine⟨a,l,fun b d=>by rw[f];exact n b d,(o.setCell (p:=⟨B+1,0,none⟩) (fun _=>h.s1) _).setCell (p:=⟨B+1+1,0,none⟩) (fun _=>h.s2) _,⟨i,hi,v⟩,s,fun b g=>?_,(c.bel.setCell (p:=⟨B+1,0,none⟩) (by show W.heap.size<=B+1;omega) _).setCell (p:=⟨B+1+1,0,none⟩) (by show W.heap.size<=B+1+1;omega) _⟩;rcases c.old b g with j|⟨k,e,m,j⟩
 ·exact .inl j
 refine .inr ⟨k,e,m,?_⟩;rw[yd (w2.setCell ⟨B+1,0,none⟩ (.int .i64 i)) ⟨B+1+1,0,none⟩ b _ (by show b≠B+1+1;omega),yd w2 ⟨B+1,0,none⟩ b _ (by show b≠B+1;omega)];exact j
end
attribute [local go_sem] Oper.semAt_some
attribute [local go_sem] fV fW eD bT
theorem uA{w:World}{a:Addr}{v:Value}(h:w.cell? a=some v):a.block<w.heap.size:=by
 rcases v6 a.block w.heap.size with b | b
 ·exact b
 exfalso;simp[World.cell?,vd b]at h
theorem uB{W:World}{d:Nat}{ts:List T}{st:List DT}{O:Nat->Nat}(h:Dd W d ts st O)(hfew:di ts){j:Nat}(hj:j<ts.length)(hj':j<st.length)(hx:ts[j].nm.size<=maxLen)(hf:be ts ts[j].nm=some ts[j])(d6:ts[j].key≠e0){kc:Nat}(L:kc<ts[j].cols.length)(hix:gx ts[j].cols ts[j].key=(kc:Int))(u:T3)(hu:u.1≠0):Calls prog 100 #[.pointer (some ⟨d,0,none⟩),.string ts[j].nm,.agg #[.int .i64 u.1,.int .i64 u.2.1,.string u.2.2]] W fun e w'=>e=.returned (.tuple #[.int .i64 ((jg st[j].2.2 kc u).getD 0),.bool (jg st[j].2.2 kc u).isSome])/\Below W.heap.size W w':=by
 have f4:=aD W (.cells #[.int .i64 u.1,.int .i64 u.2.1,.string u.2.2] 32);have k0:=z7 W (.cells #[.int .i64 u.1,.int .i64 u.2.1,.string u.2.2] 32);have d7:=aD (W.alloc (.cells #[.int .i64 u.1,.int .i64 u.2.1,.string u.2.2] 32)) (.cells #[.int .i64 0] 3);have k1:=z7 (W.alloc (.cells #[.int .i64 u.1,.int .i64 u.2.1,.string u.2.2] 32)) (.cells #[.int .i64 0] 3);have z:=aD ((W.alloc (.cells #[.int .i64 u.1,.int .i64 u.2.1,.string u.2.2] 32)).alloc (.cells #[.int .i64 0] 3)) (.cells #[.bool false] 4);have k2:=z7 ((W.alloc (.cells #[.int .i64 u.1,.int .i64 u.2.1,.string u.2.2] 32)).alloc (.cells #[.int .i64 0] 3)) (.cells #[.bool false] 4);have k0:=aE z (aE d7 k0);have k1:=aE z k1;have z:=aB (aB f4 d7) z;obtain⟨w1,d8⟩:=ag (((W.alloc (.cells #[.int .i64 u.1,.int .i64 u.2.1,.string u.2.2] 32)).alloc (.cells #[.int .i64 0] 3)).alloc (.cells #[.bool false] 4));obtain⟨B,hB⟩:=ag W.heap.size;simp only[zj]at k1 k2;rw[d8]at z k0 k1 k2;rw[hB]at k0 k1 k2;have h1:Dd w1 d ts st O:=h.later z;have hs:=bF (W:=w1) h1.dlt
 have c4:Calls prog 45 #[.pointer (some ⟨d,0,none⟩),.string ts[j].nm] w1 (ly (oe (be ts ts[j].nm)) (ft ts ts[j].nm) w1):=by
  obtain⟨mv,f,n0,q1,_⟩:=h1.own;exact eP (x:=ts[j].nm) q1.p hfew
 have f5:ft ts ts[j].nm=true:=(by rw[dK,hf];rfl);rw[hf,f5,show oe (some ts[j])=ts[j]from rfl]at c4;have h2:Hid (∀w,Below w1.heap.size w1 w->Dd w d ts st O):=aa (fun w hw=>h1.later hw);have M:Hid (∀w,Below w1.heap.size w1 w->Calls prog 62 #[.pointer (some ⟨d,0,none⟩),.string ts[j].nm] w fun e w'=>e=.returned (.pointer (some ⟨st[j].1,0,none⟩))/\w'=w):=aa (fun w hw=>(h1.later hw).rows hj hx hj');obtain⟨lab,b2,_⟩:=h.tab j hj hj';have f6:∀b,lab b≠0->b<W.heap.size:=b2.lt;have d9:Hid (∀w,Below w1.heap.size w1 w->Tb w st[j].1 ts[j] st[j].2.1 st[j].2.2 lab):=aa (fun w hw=>(b2.later z).later hw);have Q:∀a∈st[j].2.2,a.2.length=ts[j].cols.length:=(fun a ha=>b2.len a ha);have R:st[j].2.2.Pairwise (fun a b=>a.1<b.1):=(by obtain⟨i0,_,hi⟩:=b2;exact hi.srt);obtain⟨t,ht⟩:=ag (ts[j]);obtain⟨sj,f7⟩:=ag (st[j]);simp only[ht,f7]at hs c4 M d9 Q R d6 L hix hx ⊢;obtain⟨tb,next,A⟩:=sj;dsimp only at M d9 Q R ⊢;have HW:=aa (ab d8 (ab hB (ab z (ab k0 (ab k1 k2)))));have HA:=aa (ab Q (ab R (ab f6 (ab L hix))));obtain⟨res,b3⟩:=ag (jg A kc u);rw[b3];have d0:=aa b3;clear d8 hB f4 d7 z k0 k1 k2 h h1 hfew hf f5 h2 b2 Q R f6 L hix b3 ht f7 hx;have i1:=jL d6;have i2:(u.1==0)=false:=beq_eq_false_iff_ne.2 hu;refine(callsIn_wide (n:=0)).1 ?_;refine callsIn_of_wp_marks func100 rfl trivial ?_ rfl;simp only[ntmps100,List.size_toArray,xe,vp,Nat.reduceAdd,Nat.reduceSub,Array.replicate_succ,Array.replicate_zero,List.push_toArray,List.append_toArray,uh,ui];refine wpIn_wide.2 ?_;go_upto_region 1 with fail;rw[HW.1,HW.2.1]
 go_upto_region 2 with (first|(go_at_call 43;(with_reducible refine hs.mono ?_);rintro e w2⟨rfl,hw⟩;subst w2;clear hs)|(go_at_call 45;(with_reducible refine c4.mono ?_);rintro e w3⟨p1,n1,c1,p2,n2,c2,rfl,_,f8⟩;have f9:=aD w3 (.cells #[.string t.nm,.slice p1 n1 c1,.string t.key,.slice p2 n2 c2] 77);have ka:=z7 w3 (.cells #[.string t.nm,.slice p1 n1 c1,.string t.key,.slice p2 n2 c2] 77);have H3:=aa (ab (aB f8 f9) ka);clear c4 f8 f9 ka))
 obtain⟨w4,c5⟩:=ag (w3.alloc (.cells #[.string t.nm,.slice p1 n1 c1,.string t.key,.slice p2 n2 c2] 77));obtain⟨F,hF⟩:=ag w3.heap.size;have h3:F<w4.heap.size:=(by rw[<-c5,<-hF,zj];exact uf _);rw[c5,hF]at H3;rw[c5,hF];clear c5 hF;obtain⟨m0,m4⟩:=H3.out;have d1:=M.out w4 m0;have m1:=aE m0 HW.2.2.2.1;have z2:=aA m4 2;have v0:=aA m1 0;have l2:=aC m4;have l3:=aC m1;clear m0 m1 m4;go_upto_region 4 with fail;clear z2 v0 l2 l3;go_upto_region 5 with (go_at_call 62;(with_reducible refine d1.mono ?_);rintro e U⟨rfl,hw⟩;subst U;clear d1);have c6:=aD w4 (.cells #[.pointer (some ⟨tb,0,none⟩)] 62);have k5:=z7 w4 (.cells #[.pointer (some ⟨tb,0,none⟩)] 62);obtain⟨U,e3⟩:=ag (w4.alloc (.cells #[.pointer (some ⟨tb,0,none⟩)] 62));obtain⟨G,o⟩:=ag w4.heap.size;rw[e3]at c6 k5;rw[o]at k5;have d2:=aB H3.1 c6
 have b4:Hid (∀w,Below U.heap.size U w->w.heap[B]?=some (.cells #[.int .i64 u.1,.int .i64 u.2.1,.string u.2.2] 32)/\w.heap[B+1]?=some (.cells #[.int .i64 0] 3)/\w.heap[B+1+1]?=some (.cells #[.bool false] 4)/\w.heap[F]?=some (.cells #[.string t.nm,.slice p1 n1 c1,.string t.key,.slice p2 n2 c2] 77)/\w.heap[G]?=some (.cells #[.pointer (some ⟨tb,0,none⟩)] 62)/\Below W.heap.size W w/\Tb w tb t next A lab):=aa (fun w hw=>by
  have q:=aB d2 hw;exact⟨aE q HW.2.2.2.1,aE q HW.2.2.2.2.1,aE q HW.2.2.2.2.2,aE hw (aE c6 H3.2),aE hw k5,aB HW.2.2.1 q,d9.out w q⟩)
 rw[e3,o];have y1:=aA k5 0;have yl:=aC k5;have b5:Calls prog 52 #[.pointer (some ⟨tb,0,none⟩)] U (ta (ou A) U):=fD (b4.out U (zb _ _)).2.2.2.2.2.2;have h4:W.heap.size=B:=HW.2.1;have i3:W.heap.size<=U.heap.size:=(b4.out U (zb _ _)).2.2.2.2.2.1.size;clear c6 k5 e3 o d2 h3;refine(wpIn_wide (n:=0)).1 ?_
 gi_wp2_with (gi_at_call 52;refine aL rfl ?_;(with_reducible refine b5.mono ?_);rintro e w6⟨pl,nl,cl,rfl,h5,e4⟩)
 obtain⟨lr,e5,g0,g1⟩:=h5;have g2:=gA e5;have hA:=jG g0 g1 HA.2.1;have e6:=Cell.new w6 (.slice pl nl cl) 102
 gi_wp2_with (gi_at_call 83;refine aL rfl ?_;(with_reducible refine g2.mono ?_);rintro e N⟨rfl,b6⟩)
 obtain⟨c,hc⟩:=ag w6.heap.size;obtain⟨xs,e7⟩:∃xs:List Int,A.map (·.1)=xs:=⟨_,rfl⟩;have g3:xs.length=A.length:=(by rw[<-e7,yh]);rw[hc]at e6
 try rw[hc]
 rw[e7]at hA;have e8:Below w6.heap.size w6 N:=(by rw[b6];exact aD w6 _);have i4:N.heap.size=c+1:=(by rw[b6];simp[hc]);rw[<-b6]at e6
 try rw[<-b6]
 clear b6 g2 b5 y1 yl;have d3:Below U.heap.size U N:=aB e4 e8;have s:=e5.later e8;have i5:U.heap.size<=c:=(by have:=e4.size;omega);obtain⟨a0,a1,a2,a3,a4,a5,a6⟩:=b4.out N d3;obtain⟨iT,o1,o2⟩:=a6;obtain⟨d4,u1,u2⟩:=o1.Av s
 have d5:∀{b:Nat} {c7:Array Value} {e:TypeId} {m:Nat×Nat},N.heap[b]?=some (Obj.cells c7 e m)->e≠146->(Value.slice pl nl cl).ownBlock≠some b:=fun q he e=>by
  obtain⟨_,c7,h1⟩:=ac.block s _ e;rw[h1]at q;simp only[Option.some.injEq,Obj.cells.injEq]at q;exact he q.2.1.symm
 have h0:Az W B F G tb next t A d4 u (.slice p1 n1 c1) (.slice p2 n2 c2) (fun b=>b<N.heap.size/\b≠c/\(Value.slice pl nl cl).ownBlock≠some b) N:=by
  have e1:=aC (b4.out U (zb _ _)).2.1;have e2:=aC (b4.out U (zb _ _)).2.2.1;refine⟨⟨iT,u1,o2⟩,fun b q=>?_,a0,a1,a2,a3,a4,⟨by omega,by omega,d5 a1 (by decide)⟩,⟨by omega,by omega,d5 a2 (by decide)⟩,fun b q=>?_,a5⟩
  ·obtain⟨k1,k2⟩:=u2 b q;have k3:=HA.2.2.1 b k1;exact⟨⟨by omega,by omega,k2⟩,k3⟩
  by_cases e:(Value.slice pl nl cl).ownBlock=some b
  ·obtain⟨_,c7,h1⟩:=ac.block s b e;exact .inr ⟨c7,_,_,h1⟩
  exact .inl ⟨by omega,by omega,e⟩
 have g4:=Kc.my c g0 N s;rw[hA]at g4;generalize I:({ tmps:=_,defers:=_ }:Act)=act;have h6:∀b,(Value.slice pl nl cl).ownBlock=some b->b<N.heap.size:=(fun b q=>(ac.lt s b q).2);clear e8 e5 d3 u1 u2 o1 o2 g1 e4 a0 a1 a2 a3 a4 a5;refine(wpIn_wide (n:=0)).1 ?_;refine wpIn_block ?_
 refine Kc.ff (sv:=.func (.func 119) #[] #[.pointer (some ⟨c,0,none⟩)]) (by rw[<-I];rfl) g4 (fun _=>rfl)
  (fun k S w=>Az W B F G tb next t A d4 u (.slice p1 n1 c1) (.slice p2 n2 c2) S w/\∀m (hm:m<A.length),m<k->A[m].2.getD kc z3≠u) (fun cd _ S w=>cd=.ret/\Bt W B A kc u S w) ?l1 ?l2 _ ?hS ?hM ?hSM ⟨e6,s⟩ ⟨h0,fun m _ hm=>absurd hm (yo m)⟩
  (fun x=>{ tmps:=(act.tmps.setIfInBounds 35 (.int .i64 x)).setIfInBounds 11 (.int .i64 x),defers:=[] }) ?pre ?body ?done ?stop
 case l1=>exact fun k T A B h J b7 q L e9=>⟨h.1.loc b7 q L e9,h.2⟩
 case l2=>exact fun cd k T A B h J b7 q L e9=>⟨h.1,h.2.loc b7 q L e9⟩
 case hS=>exact fun b q=>q.1
 case hM =>
  rintro b(rfl|h)
  ·omega
  exact h6 b h
 case hSM =>
  rintro b q(h|h)
  ·exact q.2.1 h
  exact q.2.2 h
 case pre =>
  intro l x W K y;subst I;dsimp only[enc1]
  gi_wp2
  exact y
 case body =>
  rintro l k hk T W1 J g5⟨o,E⟩;have Y:k<A.length:=(by rw[<-g3];exact hk);have g6:xs[k]=A[k].1:=(by simp only[<-e7,xa]);rw[g6];have g7:=HA.1 _ (z8 Y);have f2:kc<A[k].2.length:=(by rw[g7];exact HA.2.2.2.1);obtain⟨v,hv⟩:=ag (A[k].2[kc]);have Z:A[k].2.getD kc z3=v:=(by rw[zu,z6 f2,hv];rfl);have b8:=iC o.tab (z8 Y) HA.2.2.2.1 HA.2.2.2.2 (by rw[z6 f2,hv]);have a7:=(fun w=>zX v u w);obtain⟨ik,a8⟩:=ag (A[k].1);rw[a8]at b8 ⊢;have y1:=aA o.cg 0;have y2:=aA o.cf 2;have y3:=aC o.cf;have g:=aa (ab o (ab J (ab E (ab Y (ab Z a8)))));subst I;dsimp only;clear o J g5 h0 E g7 f2 hv Z a8 g6
  gi_wp2_with (gi_at_call 132;refine aL rfl ?_;(with_reducible refine b8.mono ?_);rintro e w8⟨rfl,a9⟩;have v0:=aA (aE a9 g.1.cv) 0;have v1:=aA (aE a9 g.1.cv) 1;have v2:=aA (aE a9 g.1.cv) 2;have vl:=aC (aE a9 g.1.cv);have g8:=aa (aB a9 (aD w8 (.cells #[.int .i64 v.1,.int .i64 v.2.1,.string v.2.2] 32)));clear a9 b8 y1 y2 y3)
  by_cases b0:v=u
  ·rw[xd b0]at a7;have f3:=aa b0;clear b0
   gi_wp2_with (gi_at_call 134;refine aL rfl ?_;(with_reducible refine(a7 _).mono ?_);rintro e w9⟨rfl,b9⟩;have H:=aa (aB g8.out b9);have r0:=aA (aE H.out g.1.c1) 0;have r1:=aA (aE H.out g.1.c2) 0;have f0:=fun i=>zo w9 (B+1) i _ _ (aE H.out g.1.c1);have f1:=fun i=>zo w9 (B+1+1) i _ _ (aE H.out g.1.c2);have l0:=aC (aE H.out g.1.c1);have l1:=aC (aE H.out g.1.c2);clear b9 a7 v0 v1 v2 vl)
   obtain⟨o,J,E,Y,Z,a8⟩:=g.out;have b1:jg A kc u=some ik:=(by rw[<-a8];exact nM Y (Z.trans f3.out) E);obtain⟨S2,q1,q2,q3,q4⟩:=o.found J (xy h4) H.out b1
   exact⟨S2,q1,q2,q3,rfl,q4⟩
  rw[yw b0]at a7;have f3:=aa b0;clear b0
  gi_wp2_with (gi_at_call 134;refine aL rfl ?_;(with_reducible refine(a7 _).mono ?_);rintro e w9⟨rfl,b9⟩;have H:=aa (aB g8.out b9);clear b9 a7 v0 v1 v2 vl)
  obtain⟨o,J,E,Y,Z,a8⟩:=g.out;obtain⟨S2,q1,q2,q3,q4⟩:=o.round J H.out
  exact⟨S2,q1,q2,q3,q4,fun m hm i6=>by
   by_cases em:m=k
   ·subst em;rw[Z];exact f3.out
   exact E m hm (by omega)⟩
 case done =>
  rintro S' W' hg hi r⟨o,E⟩ hQ y P;subst I;have b1:jg A kc u=none:=nL (fun m hm=>E m hm (by rw[g3];exact hm));have r0:=aA o.c1 0;have r1:=aA o.c2 0;have f0:=(fun i=>zo W' (B+1) i _ _ o.c1);have f1:=(fun i=>zo W' (B+1+1) i _ _ o.c2);have l0:=aC o.c1;have l1:=aC o.c2;have g:=aa (ab o (ab y (ab P b1)));clear o hg hi r hQ P E y b1
  gi_wp2_with fail
  refine(wpIn_wide (n:=0)).1 ?_
  gi_wp2_with fail
  obtain⟨o,y,P,b1⟩:=g.out;obtain⟨y0,y1⟩:=Df (u:=.int .i64 0) (v:=.bool false) o.c1 o.c2 (by omega);have i7:W'.heap[N.heap.size]?=some (.deferred (some [])):=y;have V:N.heap.size≠B+1:=(fun e=>by rw[e,o.c1]at y;cases y);have X:N.heap.size≠B+1+1:=fun e=>by rw[e,o.c2]at y;cases y
  have g9:((W'.setCell ⟨B+1,0,none⟩ (.int .i64 0)).setCell ⟨B+1+1,0,none⟩ (.bool false)).heap[N.heap.size]?=some (.deferred (some [])):=by
   rw[yd (W'.setCell ⟨B+1,0,none⟩ (.int .i64 0)) ⟨B+1+1,0,none⟩ _ _ X,yd W' ⟨B+1,0,none⟩ _ _ V];exact y
  have c0:Below W.heap.size W ((W'.setCell ⟨B+1,0,none⟩ (.int .i64 0)).setCell ⟨B+1+1,0,none⟩ (.bool false)):=(o.bel.setCell (p:=⟨B+1,0,none⟩) (by show W.heap.size<=B+1;omega) _).setCell (p:=⟨B+1+1,0,none⟩) (by show W.heap.size<=B+1+1;omega) _;generalize ((W'.setCell ⟨B+1,0,none⟩ (.int .i64 0)).setCell ⟨B+1+1,0,none⟩ (.bool false))=wz at y0 y1 g9 c0 ⊢;refine fE (v:=.tuple #[.int .i64 0,.bool false]) g9 (fun w' r b7=>?_);have h7:=(r.block (B+1) (uA y0) (fun e=>V e.symm));have h8:=(r.block (B+1+1) (uA y1) (fun e=>X e.symm));have z0:=(za (a:=⟨B+1,0,none⟩) h7).trans y0;have z1:=(za (a:=⟨B+1+1,0,none⟩) h8).trans y1;refine⟨by simp[results,results100,go_sem,z0,z1],?_⟩;have hr:=d0.out;rw[b1]at hr;subst hr;refine⟨rfl,c0.trans (r.below c0.size (fun b q e=>?_))⟩;omega
 rintro cd k S' W' d6 i8 hg hi r⟨rfl,hX⟩ hQ y P;subst I;have g:=aa (ab hX (ab y P));clear hX hg hi r hQ P y
 gi_wp2_with fail
 obtain⟨hX,y,P⟩:=g.out;obtain⟨i,h9,c8⟩:=hX.res;have y0:=aA c8 0;have y1:=aA hX.c2 0;have V:N.heap.size≠B+1:=(fun e=>by rw[e,c8]at y;cases y);have X:N.heap.size≠B+1+1:=(fun e=>by rw[e,hX.c2]at y;cases y);refine fE (v:=.tuple #[.int .i64 i,.bool true]) y (fun w' r b7=>?_);have z0:=aA ((r.block (B+1) (aC c8) (fun e=>V e.symm)).trans c8) 0;have z1:=aA ((r.block (B+1+1) (aC hX.c2) (fun e=>X e.symm)).trans hX.c2) 0;refine⟨by simp[results,results100,go_sem,z0,z1],?_⟩;have hr:=d0.out;rw[h9]at hr;subst hr;refine⟨rfl,hX.bel.trans (r.below hX.bel.size (fun b q e=>?_))⟩;omega
