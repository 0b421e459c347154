import Derived.Test.YtkchgbjoeggdbaaGreatZn32
import Derived.Test.YtkchgbjoeggdbaaGreatZn23
set_option maxHeartbeats 8000000
set_option maxRecDepth 100000
namespace Go.Proofs.YtkchgbjoeggdbaaGreat
open Go.Proofs.Tryz
open Go Go.RowKit Go.Shelf Go.Proofs Co Co.S
attribute [local go_sem] Oper.semAt_some
attribute [local go_sem] fK fL bH aR
theorem Dd.rows{W:World}{d:Nat}{ts:List T}{st:List DT}{O:Nat->Nat}(h:Dd W d ts st O){j:Nat}(hj:j<ts.length)(hx:ts[j].nm.size<=maxLen)(hj':j<st.length):Calls prog 36 #[.pointer (some ⟨d,0,none⟩),.string ts[j].nm] W fun e w'=>e=.returned (.pointer (some ⟨st[j].1,0,none⟩))/\w'=W:=by
 obtain⟨mv,f,n,a,b,c,g,i⟩:=h.own
 have:=fX a b hx
 rw[c j hj hj']at this;exact this
theorem Dd.dlt{W:World}{d:Nat}{ts:List T}{st:List DT}{O:Nat->Nat}(h:Dd W d ts st O):d<W.heap.size:=h.lt d (by rw[h.od];decide)
structure Aa (W:World) (B F G tb next:Nat) (t:T) (A:List R1) (lab:Nat->Nat) (u:T3) (cvv dvv:Value) (S:Nat->Prop) (w:World):Prop where
 tab:Tb w tb t next A lab
 sup:∀b,lab b≠0->S b/\b<W.heap.size
 cv:w.heap[B]?=some (.cells #[.int .i64 u.1,.int .i64 u.2.1,.string u.2.2] 32)
 c1:w.heap[B+1]?=some (.cells #[.int .i64 0] 3)
 c2:w.heap[B+1+1]?=some (.cells #[.bool false] 4)
 cf:w.heap[F]?=some (.cells #[.string t.nm,cvv,.string t.key,dvv] 60)
 cg:w.heap[G]?=some (.cells #[.pointer (some ⟨tb,0,none⟩)] 48)
 s1:S (B+1)
 s2:S (B+1+1)
 old:∀b,b<W.heap.size->S b∨∃cur e m,w.heap[b]?=some (.cells cur e m)
 bel:Below W.heap.size W w
structure Bc (W:World) (B:Nat) (A:List R1) (kc:Nat) (u:T3) (S:Nat->Prop) (w:World):Prop where
 res:∃i,jj A kc u=some i/\w.heap[B+1]?=some (.cells #[.int .i64 i] 3)
 c2:w.heap[B+1+1]?=some (.cells #[.bool true] 4)
 old:∀b,b<W.heap.size->S b∨∃cur e m,w.heap[b]?=some (.cells cur e m)
 bel:Below W.heap.size W w
section
variable{W A' B' w1 w2:World}{B F G tb next kc:Nat}{t:T}{A:List R1}{lab:Nat->Nat}{u:T3}{cvv dvv:Value}{S:Nat->Prop}
theorem lF(hb:∀b,S b->B'.heap[b]?=A'.heap[b]?)(hkc:∀(b:Nat) (a:Array Value) (e:TypeId) (m:Nat×Nat),A'.heap[b]?=some (Obj.cells a e m)->B'.heap[b]?=some (Obj.cells a e m))(hsz:A'.heap.size<=B'.heap.size)(hos:B'.os=A'.os/\B'.tape=A'.tape/\B'.output=A'.output)(hold:∀b,b<W.heap.size->S b∨∃a e m,A'.heap[b]?=some (.cells a e m))(hbel:Below W.heap.size W A'):(∀b,b<W.heap.size->S b∨∃a e m,B'.heap[b]?=some (.cells a e m))/\Below W.heap.size W B':=by
 refine⟨fun b c=>(hold b c).imp id (fun⟨a,e,m,he⟩=>⟨a,e,m,hkc b a e m he⟩),hbel.trans ⟨hos.1,hos.2.1,hos.2.2,hsz,fun b c=>?_⟩⟩;rcases hold b c with d|⟨a,e,m,d⟩
 ·exact hb b d
 rw[hkc b a e m d,d]
theorem Aa.loc(h:Aa W B F G tb next t A lab u cvv dvv S A')(hsz:A'.heap.size<=B'.heap.size)(hb:∀b,S b->B'.heap[b]?=A'.heap[b]?)(hkc:∀(b:Nat) (a:Array Value) (e:TypeId) (m:Nat×Nat),A'.heap[b]?=some (Obj.cells a e m)->B'.heap[b]?=some (Obj.cells a e m))(hos:B'.os=A'.os/\B'.tape=A'.tape/\B'.output=A'.output):Aa W B F G tb next t A lab u cvv dvv S B':=by
 have c:Tn (fun b=>¬ S b) A' B':=⟨⟨hos.1,hos.2.1,hos.2.2,hsz,fun b _ d=>hb b (Classical.not_not.1 d)⟩,fun b a e m f _=>hkc b a e m f⟩;obtain⟨g,i⟩:=lF hb hkc hsz hos h.old h.bel;exact⟨h.tab.tn c (fun b d=>Classical.byContradiction fun j=>d (h.sup b j).1),h.sup,hkc _ _ _ _ h.cv,hkc _ _ _ _ h.c1,hkc _ _ _ _ h.c2,hkc _ _ _ _ h.cf,hkc _ _ _ _ h.cg,h.s1,h.s2,g,i⟩
theorem Bc.loc(h:Bc W B A kc u S A')(hsz:A'.heap.size<=B'.heap.size)(hb:∀b,S b->B'.heap[b]?=A'.heap[b]?)(hkc:∀(b:Nat) (a:Array Value) (e:TypeId) (m:Nat×Nat),A'.heap[b]?=some (Obj.cells a e m)->B'.heap[b]?=some (Obj.cells a e m))(hos:B'.os=A'.os/\B'.tape=A'.tape/\B'.output=A'.output):Bc W B A kc u S B':=by
 obtain⟨c,d⟩:=lF hb hkc hsz hos h.old h.bel;obtain⟨i,r1,f⟩:=h.res;exact⟨⟨i,r1,hkc _ _ _ _ f⟩,hkc _ _ _ _ h.c2,c,d⟩
theorem Aa.round(h:Aa W B F G tb next t A lab u cvv dvv S w1)(hin:fi S w1)(a:Below w1.heap.size w1 w2):∃c,Grows S c w1/\fi c w2/\Chg S w1 w2/\Aa W B F G tb next t A lab u cvv dvv c w2:=by
 have i:=a.size;refine⟨fun b=>S b∨(w1.heap.size<=b/\b<w2.heap.size),fun b a=>a.imp id (fun h=>h.1),fun b a=>?_,?_,h.tab.later a,fun b a=>⟨.inl (h.sup b a).1,(h.sup b a).2⟩,aE a h.cv,aE a h.c1,aE a h.c2,aE a h.cf,aE a h.cg,.inl h.s1,.inl h.s2,fun b d=>?_,aC h.bel a⟩
 ·rcases a with a|a
  ·have:=hin b a;omega
  exact a.2
 ·exact(Chg.of_below (S:=fun _=>False) a).mono (fun _ _ h=>h.elim)
 rcases h.old b d with f|⟨g,e,m,f⟩
 ·exact .inl (.inl f)
 exact .inr ⟨g,e,m,aE a f⟩
theorem Aa.found(h:Aa W B F G tb next t A lab u cvv dvv S w1)(hin:fi S w1)(hB:W.heap.size<=B)(d:Below w1.heap.size w1 w2){i:Int}(hi:jj A kc u=some i):∃a,Grows S a w1/\fi a ((w2.setCell ⟨B+1,0,none⟩ (.int .i64 i)).setCell ⟨B+1+1,0,none⟩ (.bool true))/\Chg S w1 ((w2.setCell ⟨B+1,0,none⟩ (.int .i64 i)).setCell ⟨B+1+1,0,none⟩ (.bool true))/\Bc W B A kc u a ((w2.setCell ⟨B+1,0,none⟩ (.int .i64 i)).setCell ⟨B+1+1,0,none⟩ (.bool true)):=by
 obtain⟨a,l,n,o,c⟩:=h.round hin d;have q:=y7 w2 (B+1) 0 #[.int .i64 0] 3 (.int .i64 i) c.c1;have r:(w2.setCell ⟨B+1,0,none⟩ (.int .i64 i)).heap[B+1+1]?=_:=(y9 w2 ⟨B+1,0,none⟩ (B+1+1) _ (by show B+1+1≠B+1;omega)).trans c.c2;have s:=y7 (w2.setCell ⟨B+1,0,none⟩ (.int .i64 i)) (B+1+1) 0 #[.bool false] 4 (.bool true) r;have v:((w2.setCell ⟨B+1,0,none⟩ (.int .i64 i)).setCell ⟨B+1+1,0,none⟩ (.bool true)).heap[B+1]?=_:=(y9 (w2.setCell ⟨B+1,0,none⟩ (.int .i64 i)) ⟨B+1+1,0,none⟩ (B+1) _ (by show B+1≠B+1+1;omega)).trans q;have f:((w2.setCell ⟨B+1,0,none⟩ (.int .i64 i)).setCell ⟨B+1+1,0,none⟩ (.bool true)).heap.size=w2.heap.size:=(by simp);refine⟨a,l,fun b d=>by rw[f];exact n b d,(o.setCell (p:=⟨B+1,0,none⟩) (fun _=>h.s1) _).setCell (p:=⟨B+1+1,0,none⟩) (fun _=>h.s2) _,⟨i,hi,v⟩,s,fun b g=>?_,(c.bel.setCell (p:=⟨B+1,0,none⟩) (by show W.heap.size<=B+1;omega) _).setCell (p:=⟨B+1+1,0,none⟩) (by show W.heap.size<=B+1+1;omega) _⟩;rcases c.old b g with j|⟨k,e,m,j⟩
 ·exact .inl j
 refine .inr ⟨k,e,m,?_⟩;rw[y9 (w2.setCell ⟨B+1,0,none⟩ (.int .i64 i)) ⟨B+1+1,0,none⟩ b _ (by show b≠B+1+1;omega),y9 w2 ⟨B+1,0,none⟩ b _ (by show b≠B+1;omega)];exact j
end
attribute [local go_sem] Oper.semAt_some
attribute [local go_sem] fK fL bH aR
theorem tF{w:World}{a:Addr}{v:Value}(h:w.cell? a=some v):a.block<w.heap.size:=by
 rcases wm a.block w.heap.size with b | b
 ·exact b
 exfalso;simp[World.cell?,wt b]at h
theorem tG{W:World}{d:Nat}{ts:List T}{st:List DT}{O:Nat->Nat}(h:Dd W d ts st O)(hfew:bs ts){j:Nat}(hj:j<ts.length)(hj':j<st.length)(hx:ts[j].nm.size<=maxLen)(hf:bg ts ts[j].nm=some ts[j])(d4:ts[j].key≠e0){kc:Nat}(L:kc<ts[j].cols.length)(hix:fx ts[j].cols ts[j].key=(kc:Int))(u:T3)(hu:u.1≠0):Calls prog 47 #[.pointer (some ⟨d,0,none⟩),.string ts[j].nm,.agg #[.int .i64 u.1,.int .i64 u.2.1,.string u.2.2]] W fun e w'=>e=.returned (.tuple #[.int .i64 ((jj st[j].2.2 kc u).getD 0),.bool (jj st[j].2.2 kc u).isSome])/\Below W.heap.size W w':=by
 have f2:=aD W (.cells #[.int .i64 u.1,.int .i64 u.2.1,.string u.2.2] 32);have k0:=z7 W (.cells #[.int .i64 u.1,.int .i64 u.2.1,.string u.2.2] 32);have d5:=aD (W.alloc (.cells #[.int .i64 u.1,.int .i64 u.2.1,.string u.2.2] 32)) (.cells #[.int .i64 0] 3);have k1:=z7 (W.alloc (.cells #[.int .i64 u.1,.int .i64 u.2.1,.string u.2.2] 32)) (.cells #[.int .i64 0] 3);have z:=aD ((W.alloc (.cells #[.int .i64 u.1,.int .i64 u.2.1,.string u.2.2] 32)).alloc (.cells #[.int .i64 0] 3)) (.cells #[.bool false] 4);have k2:=z7 ((W.alloc (.cells #[.int .i64 u.1,.int .i64 u.2.1,.string u.2.2] 32)).alloc (.cells #[.int .i64 0] 3)) (.cells #[.bool false] 4);have k0:=aE z (aE d5 k0);have k1:=aE z k1;have z:=aC (aC f2 d5) z;obtain⟨w1,d6⟩:=ae (((W.alloc (.cells #[.int .i64 u.1,.int .i64 u.2.1,.string u.2.2] 32)).alloc (.cells #[.int .i64 0] 3)).alloc (.cells #[.bool false] 4));obtain⟨B,hB⟩:=ae W.heap.size;simp only[zm]at k1 k2;rw[d6]at z k0 k1 k2;rw[hB]at k0 k1 k2;have h1:Dd w1 d ts st O:=h.later z;have hs:=aY (W:=w1) h1.dlt
 have c3:Calls prog 38 #[.pointer (some ⟨d,0,none⟩),.string ts[j].nm] w1 (ma (nu (bg ts ts[j].nm)) (fe ts ts[j].nm) w1):=by
  obtain⟨mv,f,n0,q1,_⟩:=h1.own;exact dZ (x:=ts[j].nm) q1.p hfew
 have f3:fe ts ts[j].nm=true:=(by rw[cU,hf];rfl);rw[hf,f3,show nu (some ts[j])=ts[j]from rfl]at c3;have g8:Hid (∀w,Below w1.heap.size w1 w->Dd w d ts st O):=aa (fun w hw=>h1.later hw);have M:Hid (∀w,Below w1.heap.size w1 w->Calls prog 36 #[.pointer (some ⟨d,0,none⟩),.string ts[j].nm] w fun e w'=>e=.returned (.pointer (some ⟨st[j].1,0,none⟩))/\w'=w):=aa (fun w hw=>(h1.later hw).rows hj hx hj');obtain⟨lab,b2,_⟩:=h.tab j hj hj';have f4:∀b,lab b≠0->b<W.heap.size:=b2.lt;have d7:Hid (∀w,Below w1.heap.size w1 w->Tb w st[j].1 ts[j] st[j].2.1 st[j].2.2 lab):=aa (fun w hw=>(b2.later z).later hw);have Q:∀a∈st[j].2.2,a.2.length=ts[j].cols.length:=(fun a ha=>b2.len a ha);have R:st[j].2.2.Pairwise (fun a b=>a.1<b.1):=(by obtain⟨i0,_,hi⟩:=b2;exact hi.srt);obtain⟨t,ht⟩:=ae (ts[j]);obtain⟨sj,f5⟩:=ae (st[j]);simp only[ht,f5]at hs c3 M d7 Q R d4 L hix hx ⊢;obtain⟨tb,next,A⟩:=sj;dsimp only at M d7 Q R ⊢;have HW:=aa (ab d6 (ab hB (ab z (ab k0 (ab k1 k2)))));have HA:=aa (ab Q (ab R (ab f4 (ab L hix))));obtain⟨res,b3⟩:=ae (jj A kc u);rw[b3];have c8:=aa b3;clear d6 hB f2 d5 z k0 k1 k2 h h1 hfew hf f3 g8 b2 Q R f4 L hix b3 ht f5 hx;have h8:=iW d4;have h9:(u.1==0)=false:=beq_eq_false_iff_ne.2 hu;refine(callsIn_wide (n:=0)).1 ?_;refine callsIn_of_wp_marks func47 rfl trivial ?_ rfl;simp only[ntmps47,List.size_toArray,xa,vc,Nat.reduceAdd,Nat.reduceSub,Array.replicate_succ,Array.replicate_zero,List.push_toArray,List.append_toArray,IU,IV];refine wpIn_wide.2 ?_;go_upto_region 1 with fail;rw[HW.1,HW.2.1]
 go_upto_region 2 with (first|(go_at_call 37;(with_reducible refine hs.mono ?_);rintro e w2⟨rfl,hw⟩;subst w2;clear hs)|(go_at_call 38;(with_reducible refine c3.mono ?_);rintro e w3⟨p1,n1,c1,p2,n2,c2,rfl,_,f6⟩;have f7:=aD w3 (.cells #[.string t.nm,.slice p1 n1 c1,.string t.key,.slice p2 n2 c2] 60);have ka:=z7 w3 (.cells #[.string t.nm,.slice p1 n1 c1,.string t.key,.slice p2 n2 c2] 60);have H3:=aa (ab (aC f6 f7) ka);clear c3 f6 f7 ka))
 obtain⟨w4,c4⟩:=ae (w3.alloc (.cells #[.string t.nm,.slice p1 n1 c1,.string t.key,.slice p2 n2 c2] 60));obtain⟨F,hF⟩:=ae w3.heap.size;have g9:F<w4.heap.size:=(by rw[<-c4,<-hF,zm];exact IW _);rw[c4,hF]at H3;rw[c4,hF];clear c4 hF;obtain⟨m0,m4⟩:=H3.out;have c9:=M.out w4 m0;have m1:=aE m0 HW.2.2.2.1;have z2:=aA m4 2;have v0:=aA m1 0;have l2:=aB m4;have l3:=aB m1;clear m0 m1 m4;go_upto_region 4 with fail;clear z2 v0 l2 l3;go_upto_region 5 with (go_at_call 36;(with_reducible refine c9.mono ?_);rintro e U⟨rfl,hw⟩;subst U;clear c9);have c5:=aD w4 (.cells #[.pointer (some ⟨tb,0,none⟩)] 48);have k5:=z7 w4 (.cells #[.pointer (some ⟨tb,0,none⟩)] 48);obtain⟨U,d8⟩:=ae (w4.alloc (.cells #[.pointer (some ⟨tb,0,none⟩)] 48));obtain⟨G,o⟩:=ae w4.heap.size;rw[d8]at c5 k5;rw[o]at k5;have d0:=aC H3.1 c5
 have b4:Hid (∀w,Below U.heap.size U w->w.heap[B]?=some (.cells #[.int .i64 u.1,.int .i64 u.2.1,.string u.2.2] 32)/\w.heap[B+1]?=some (.cells #[.int .i64 0] 3)/\w.heap[B+1+1]?=some (.cells #[.bool false] 4)/\w.heap[F]?=some (.cells #[.string t.nm,.slice p1 n1 c1,.string t.key,.slice p2 n2 c2] 60)/\w.heap[G]?=some (.cells #[.pointer (some ⟨tb,0,none⟩)] 48)/\Below W.heap.size W w/\Tb w tb t next A lab):=aa (fun w hw=>by
  have q:=aC d0 hw;exact⟨aE q HW.2.2.2.1,aE q HW.2.2.2.2.1,aE q HW.2.2.2.2.2,aE hw (aE c5 H3.2),aE hw k5,aC HW.2.2.1 q,d7.out w q⟩)
 rw[d8,o];have y1:=aA k5 0;have yl:=aB k5;have b5:Calls prog 15 #[.pointer (some ⟨tb,0,none⟩)] U (rq (oi A) U):=eM (b4.out U (zg _ _)).2.2.2.2.2.2;have h2:W.heap.size=B:=HW.2.1;have i2:W.heap.size<=U.heap.size:=(b4.out U (zg _ _)).2.2.2.2.2.1.size;clear c5 k5 d8 o d0 g9;refine(wpIn_wide (n:=0)).1 ?_
 gi_wp2_with (gi_at_call 15;refine aI rfl ?_;(with_reducible refine b5.mono ?_);rintro e w6⟨pl,nl,cl,rfl,h3,d9⟩)
 obtain⟨lr,e3,f8,f9⟩:=h3;have g0:=eD e3;have hA:=fR f8 f9 HA.2.1;have e4:=Cell.new w6 (.slice pl nl cl) 29
 gi_wp2_with (gi_at_call 16;refine aI rfl ?_;(with_reducible refine g0.mono ?_);rintro e N⟨rfl,b6⟩)
 obtain⟨c,hc⟩:=ae w6.heap.size;obtain⟨xs,e5⟩:∃xs:List Int,A.map (·.1)=xs:=⟨_,rfl⟩;have g1:xs.length=A.length:=(by rw[<-e5,yd]);rw[hc]at e4
 try rw[hc]
 rw[e5]at hA;have e6:Below w6.heap.size w6 N:=(by rw[b6];exact aD w6 _);have i3:N.heap.size=c+1:=(by rw[b6];simp[hc]);rw[<-b6]at e4
 try rw[<-b6]
 clear b6 g0 b5 y1 yl;have d1:Below U.heap.size U N:=aC d9 e6;have s:=e3.later e6;have i4:U.heap.size<=c:=(by have:=d9.size;omega);obtain⟨a0,a1,a2,a3,a4,a5,a6⟩:=b4.out N d1;obtain⟨iT,o1,o2⟩:=a6;obtain⟨d2,u1,u2⟩:=o1.uz s
 have d3:∀{b:Nat} {c6:Array Value} {e:TypeId} {m:Nat×Nat},N.heap[b]?=some (Obj.cells c6 e m)->e≠81->(Value.slice pl nl cl).ownBlock≠some b:=fun q he e=>by
  obtain⟨_,c6,h1⟩:=ac.block s _ e;rw[h1]at q;simp only[Option.some.injEq,Obj.cells.injEq]at q;exact he q.2.1.symm
 have h0:Aa W B F G tb next t A d2 u (.slice p1 n1 c1) (.slice p2 n2 c2) (fun b=>b<N.heap.size/\b≠c/\(Value.slice pl nl cl).ownBlock≠some b) N:=by
  have e1:=aB (b4.out U (zg _ _)).2.1;have e2:=aB (b4.out U (zg _ _)).2.2.1;refine⟨⟨iT,u1,o2⟩,fun b q=>?_,a0,a1,a2,a3,a4,⟨by omega,by omega,d3 a1 (by decide)⟩,⟨by omega,by omega,d3 a2 (by decide)⟩,fun b q=>?_,a5⟩
  ·obtain⟨k1,k2⟩:=u2 b q;have k3:=HA.2.2.1 b k1;exact⟨⟨by omega,by omega,k2⟩,k3⟩
  by_cases e:(Value.slice pl nl cl).ownBlock=some b
  ·obtain⟨_,c6,h1⟩:=ac.block s b e;exact .inr ⟨c6,_,_,h1⟩
  exact .inl ⟨by omega,by omega,e⟩
 have g2:=Kc.iu c f8 N s;rw[hA]at g2;generalize I:({ tmps:=_,defers:=_ }:Act)=act;have h4:∀b,(Value.slice pl nl cl).ownBlock=some b->b<N.heap.size:=(fun b q=>(ac.lt s b q).2);clear e6 e3 d1 u1 u2 o1 o2 f9 d9 a0 a1 a2 a3 a4 a5;refine(wpIn_wide (n:=0)).1 ?_;refine wpIn_block ?_
 refine Kc.eb (sv:=.func (.func 43) #[] #[.pointer (some ⟨c,0,none⟩)]) (by rw[<-I];rfl) g2 (fun _=>rfl)
  (fun k S w=>Aa W B F G tb next t A d2 u (.slice p1 n1 c1) (.slice p2 n2 c2) S w/\∀m (hm:m<A.length),m<k->A[m].2.getD kc z3≠u) (fun cd _ S w=>cd=.ret/\Bc W B A kc u S w) ?l1 ?l2 _ ?hS ?hM ?hSM ⟨e4,s⟩ ⟨h0,fun m _ hm=>absurd hm (yh m)⟩
  (fun x=>{ tmps:=(act.tmps.setIfInBounds 35 (.int .i64 x)).setIfInBounds 11 (.int .i64 x),defers:=[] }) ?pre ?body ?done ?stop
 case l1=>exact fun k T A B h J b7 q L e7=>⟨h.1.loc b7 q L e7,h.2⟩
 case l2=>exact fun cd k T A B h J b7 q L e7=>⟨h.1,h.2.loc b7 q L e7⟩
 case hS=>exact fun b q=>q.1
 case hM =>
  rintro b(rfl|h)
  ·omega
  exact h4 b h
 case hSM =>
  rintro b q(h|h)
  ·exact q.2.1 h
  exact q.2.2 h
 case pre =>
  intro l x W K y;subst I;dsimp only[enc1]
  gi_wp2
  exact y
 case body =>
  rintro l k hk T W1 J g3⟨o,E⟩;have Y:k<A.length:=(by rw[<-g1];exact hk);have g4:xs[k]=A[k].1:=(by simp only[<-e5,yw]);rw[g4];have g5:=HA.1 _ (z8 Y);have e8:kc<A[k].2.length:=(by rw[g5];exact HA.2.2.2.1);obtain⟨v,hv⟩:=ae (A[k].2[kc]);have Z:A[k].2.getD kc z3=v:=(by rw[zv,z6 e8,hv];rfl);have b8:=gK o.tab (z8 Y) HA.2.2.2.1 HA.2.2.2.2 (by rw[z6 e8,hv]);have a7:=(fun w=>xZ v u w);obtain⟨ik,a8⟩:=ae (A[k].1);rw[a8]at b8 ⊢;have y1:=aA o.cg 0;have y2:=aA o.cf 2;have y3:=aB o.cf;have g:=aa (ab o (ab J (ab E (ab Y (ab Z a8)))));subst I;dsimp only;clear o J g3 h0 E g5 e8 hv Z a8 g4
  gi_wp2_with (gi_at_call 45;refine aI rfl ?_;(with_reducible refine b8.mono ?_);rintro e w8⟨rfl,a9⟩;have v0:=aA (aE a9 g.1.cv) 0;have v1:=aA (aE a9 g.1.cv) 1;have v2:=aA (aE a9 g.1.cv) 2;have vl:=aB (aE a9 g.1.cv);have g6:=aa (aC a9 (aD w8 (.cells #[.int .i64 v.1,.int .i64 v.2.1,.string v.2.2] 32)));clear a9 b8 y1 y2 y3)
  by_cases b0:v=u
  ·rw[yy b0]at a7;have e9:=aa b0;clear b0
   gi_wp2_with (gi_at_call 86;refine aI rfl ?_;(with_reducible refine(a7 _).mono ?_);rintro e w9⟨rfl,b9⟩;have H:=aa (aC g6.out b9);have r0:=aA (aE H.out g.1.c1) 0;have r1:=aA (aE H.out g.1.c2) 0;have f0:=fun i=>zq w9 (B+1) i _ _ (aE H.out g.1.c1);have f1:=fun i=>zq w9 (B+1+1) i _ _ (aE H.out g.1.c2);have l0:=aB (aE H.out g.1.c1);have l1:=aB (aE H.out g.1.c2);clear b9 a7 v0 v1 v2 vl)
   obtain⟨o,J,E,Y,Z,a8⟩:=g.out;have b1:jj A kc u=some ik:=(by rw[<-a8];exact mY Y (Z.trans e9.out) E);obtain⟨S2,q1,q2,q3,q4⟩:=o.found J (xn h2) H.out b1
   exact⟨S2,q1,q2,q3,rfl,q4⟩
  rw[yp b0]at a7;have e9:=aa b0;clear b0
  gi_wp2_with (gi_at_call 86;refine aI rfl ?_;(with_reducible refine(a7 _).mono ?_);rintro e w9⟨rfl,b9⟩;have H:=aa (aC g6.out b9);clear b9 a7 v0 v1 v2 vl)
  obtain⟨o,J,E,Y,Z,a8⟩:=g.out;obtain⟨S2,q1,q2,q3,q4⟩:=o.round J H.out
  exact⟨S2,q1,q2,q3,q4,fun m hm i5=>by
   by_cases em:m=k
   ·subst em;rw[Z];exact e9.out
   exact E m hm (by omega)⟩
 case done =>
  rintro S' W' hg hi r⟨o,E⟩ hQ y P;subst I;have b1:jj A kc u=none:=mX (fun m hm=>E m hm (by rw[g1];exact hm));have r0:=aA o.c1 0;have r1:=aA o.c2 0;have f0:=(fun i=>zq W' (B+1) i _ _ o.c1);have f1:=(fun i=>zq W' (B+1+1) i _ _ o.c2);have l0:=aB o.c1;have l1:=aB o.c2;have g:=aa (ab o (ab y (ab P b1)));clear o hg hi r hQ P E y b1
  gi_wp2_with fail
  refine(wpIn_wide (n:=0)).1 ?_
  gi_wp2_with fail
  obtain⟨o,y,P,b1⟩:=g.out;obtain⟨y0,y1⟩:=yI (u:=.int .i64 0) (v:=.bool false) o.c1 o.c2 (by omega);have i6:W'.heap[N.heap.size]?=some (.deferred (some [])):=y;have V:N.heap.size≠B+1:=(fun e=>by rw[e,o.c1]at y;cases y);have X:N.heap.size≠B+1+1:=fun e=>by rw[e,o.c2]at y;cases y
  have g7:((W'.setCell ⟨B+1,0,none⟩ (.int .i64 0)).setCell ⟨B+1+1,0,none⟩ (.bool false)).heap[N.heap.size]?=some (.deferred (some [])):=by
   rw[y9 (W'.setCell ⟨B+1,0,none⟩ (.int .i64 0)) ⟨B+1+1,0,none⟩ _ _ X,y9 W' ⟨B+1,0,none⟩ _ _ V];exact y
  have c0:Below W.heap.size W ((W'.setCell ⟨B+1,0,none⟩ (.int .i64 0)).setCell ⟨B+1+1,0,none⟩ (.bool false)):=(o.bel.setCell (p:=⟨B+1,0,none⟩) (by show W.heap.size<=B+1;omega) _).setCell (p:=⟨B+1+1,0,none⟩) (by show W.heap.size<=B+1+1;omega) _;generalize ((W'.setCell ⟨B+1,0,none⟩ (.int .i64 0)).setCell ⟨B+1+1,0,none⟩ (.bool false))=wz at y0 y1 g7 c0 ⊢;refine dG (v:=.tuple #[.int .i64 0,.bool false]) g7 (fun w' r b7=>?_);have h5:=(r.block (B+1) (tF y0) (fun e=>V e.symm));have h6:=(r.block (B+1+1) (tF y1) (fun e=>X e.symm));have z0:=(ze (a:=⟨B+1,0,none⟩) h5).trans y0;have z1:=(ze (a:=⟨B+1+1,0,none⟩) h6).trans y1;refine⟨by simp[results,results47,go_sem,z0,z1],?_⟩;have hr:=c8.out;rw[b1]at hr;subst hr;refine⟨rfl,c0.trans (r.below c0.size (fun b q e=>?_))⟩;omega
 rintro cd k S' W' d4 i7 hg hi r⟨rfl,hX⟩ hQ y P;subst I;have g:=aa (ab hX (ab y P));clear hX hg hi r hQ P y
 gi_wp2_with fail
 obtain⟨hX,y,P⟩:=g.out;obtain⟨i,h7,c7⟩:=hX.res;have y0:=aA c7 0;have y1:=aA hX.c2 0;have V:N.heap.size≠B+1:=(fun e=>by rw[e,c7]at y;cases y);have X:N.heap.size≠B+1+1:=(fun e=>by rw[e,hX.c2]at y;cases y);refine dG (v:=.tuple #[.int .i64 i,.bool true]) y (fun w' r b7=>?_);have z0:=aA ((r.block (B+1) (aB c7) (fun e=>V e.symm)).trans c7) 0;have z1:=aA ((r.block (B+1+1) (aB hX.c2) (fun e=>X e.symm)).trans hX.c2) 0;refine⟨by simp[results,results47,go_sem,z0,z1],?_⟩;have hr:=c8.out;rw[h7]at hr;subst hr;refine⟨rfl,hX.bel.trans (r.below hX.bel.size (fun b q e=>?_))⟩;omega
end Go.Proofs.YtkchgbjoeggdbaaGreat
namespace Go.Proofs.YtkchgbjoeggdbaaGreat
open Go.Proofs.Tryz
open Go Go.RowKit Go.Proofs Co Co.S
def Short(ts:List T):Prop:=∀t∈ts,t.nm.size<=maxLen
abbrev rowsOf(st:List DT):List (List R1):=st.map (·.2.2)
section
variable{W:World}{d:Nat}{ts:List T}{st:List DT}{O:Nat->Nat}
theorem mZ{As:List (List R1)}{x:ByteArray}{v:T3}(h:jz ts x<0):bi ts As x v=none:=by
 unfold bi;split
 ·rw[zw h]
 rfl
theorem oV{As:List (List R1)}{x:ByteArray}{v:T3}{j:Nat}(hj:j<ts.length)(hj':j<As.length)(h:jz ts x=(j:Int)):bi ts As x v=if ts[j].key=e0 then none else if v.1=0 then none else jj As[j] (fx ts[j].cols ts[j].key).toNat v:=by
 unfold bi;rw[h];simp only[wo,z6 hj,z6 hj'];rw[zu (by omega)]
theorem Dd.sp(h:Dd W d ts st O):∃mv,mh mv W (.pointer (some ⟨d,0,none⟩)) ts:=by
 obtain⟨mv,f,n0,a,_⟩:=h.own;exact⟨mv,a.p⟩
theorem gQ{x:ByteArray}{t:T}(h:bg ts x=some t):t.nm=x:=by
 have:=List.find?_some (l:=ts) (p:=qb x) h
 exact cY (by simpa [qb,ip]using this)
theorem gR(h:Dd W d ts st O)(hi:ls ts)(hfew:bs ts)(hsz:Short ts)(x:ByteArray)(u:T3):Calls prog 47 #[.pointer (some ⟨d,0,none⟩),.string x,.agg #[.int .i64 u.1,.int .i64 u.2.1,.string u.2.2]] W fun e w'=>e=.returned (.tuple #[.int .i64 ((bi ts (rowsOf st) x u).getD 0),.bool (bi ts (rowsOf st) x u).isSome])/\Below W.heap.size W w':=by
 have b:∀w,Below W.heap.size W w->Calls prog 37 #[.pointer (some ⟨d,0,none⟩)] w fun e w'=>e=.returned (.pointer (some ⟨d,0,none⟩))/\w'=w:=fun w t=>aY (h.later t).dlt
 obtain⟨mv,c⟩:=h.sp;rcases bW ts x with ⟨r,_,f⟩ | ⟨j,g,r,_,f⟩
 ·rw[mZ (by omega)];exact jR b c hfew (.inl (by rw[f];rfl))
 have i:j<st.length:=(by rw[h.len];exact g);have p:j<(rowsOf st).length:=(by rw[yd];exact i);rw[oV g p r];by_cases l:ts[j].key=e0
 ·rw[zw l];exact jR b c hfew (.inl (by rw[f];exact l))
 rw[zu l];by_cases n:u.1=0
 ·rw[zw n];exact jR b c hfew (.inr n)
 rw[zu n];have m:=gQ f;have a:=hi.key _ (z8 g)
 have s:cp ts[j].cols ts[j].key=true:=by
  unfold bm at a;rw[wh]at a;rcases a with a|a
  ·rw[eJ]at a;exact absurd a l
  exact a
 rcases cD ts[j].cols ts[j].key with ⟨_,o,_⟩ | ⟨k,q,o,_⟩
 ·rw[o]at s;cases s
 rw[o]
 have:=tG h hfew g i (hsz _ (z8 g)) (by rw[m];exact f) l q o u n
 rw[m]at this;simpa only[wo,rowsOf,yw]using this
theorem DB{tb next:Nat}{t:T}{A:List R1}{lab:Nat->Nat}(h:Tb W tb t next A lab){id:Int}(hid:lg id){y:ByteArray}{k:Nat}(hk:k<t.cols.length)(hy:fx t.cols y=(k:Int)):Calls prog 45 #[.pointer (some ⟨tb,0,none⟩),.int .i64 id,.string y] W fun e w'=>e=.returned (.tuple #[.agg #[.int .i64 ((oy A k id).1),.int .i64 ((oy A k id).2.1),.string ((oy A k id).2.2)],.bool (di A id)])/\Below W.heap.size W w':=by
 cases b:di A id with
 | false =>
  rw[Eh b];exact D7 h hid (.inl (tE.1 b))
 | true =>
  obtain⟨a,c,rfl,d⟩:=D2 b;rw[d];have f:k<a.2.length:=(by rw[h.len a c];exact hk);have e:a.2[k]?=some (a.2.getD k z3):=(by rw[zv,z6 f];rfl);exact gK h c hk hy e
theorem Dd.get(h:Dd W d ts st O)(hsz:Short ts){x y:ByteArray}(hc:cp (dq ts x) y=true):∃tb,∀w,Below W.heap.size W w ->
  (Calls prog 36 #[.pointer (some ⟨d,0,none⟩),.string x] w fun e w'=>e=.returned (.pointer (some ⟨tb,0,none⟩))/\w'=w)/\∀id,lg id->Calls prog 45 #[.pointer (some ⟨tb,0,none⟩),.int .i64 id,.string y] w fun e w'=>e=.returned (.tuple #[.agg #[.int .i64 ((cellP ts (rowsOf st) x id y).1),.int .i64 ((cellP ts (rowsOf st) x id y).2.1),.string ((cellP ts (rowsOf st) x id y).2.2)],.bool (di (jb ts (rowsOf st) x) id)])/\Below w.heap.size w w':=by
 obtain⟨j,c,f,g,q,i,k,n,b⟩:=Hz hc;have a:j<st.length:=by rw[h.len];exact c
 have o:jb ts (rowsOf st) x=st[j].2.2:=by
  unfold jb;rw[g,wo,xe,z6 a];rfl
 refine⟨st[j].1,fun w m=>⟨?_,fun id l=>?_⟩⟩
 ·have:=(h.later m).rows c (hsz _ (z8 c)) a
  rw[f]at this;exact this
 obtain⟨lab,p,_⟩:=(h.later m).tab j c a
 have:=DB p l n b
 unfold cellP;rw[o,i,b,wo];exact this
theorem Dd.f64(h:Dd W d ts st O){x:ByteArray}{i:Int}(hm:di (jb ts (rowsOf st) x) i=true):lg i:=by
 obtain⟨a,b,rfl⟩:=oU.1 hm;unfold jb at b;rw[xe]at b;cases f:st[(jz ts x).toNat]? with
 | none=>rw[f]at b;cases b
 | some s =>
  rw[f]at b;obtain⟨c,rfl⟩:=List.getElem?_eq_some_iff.1 f;obtain⟨lab,⟨g,_,e⟩,_⟩:=h.tab _ (by rw[<-h.len];exact c) c;exact Tb.f64 e b
end
end Go.Proofs.YtkchgbjoeggdbaaGreat
namespace Go.Proofs.YtkchgbjoeggdbaaGreat
open Go.Proofs.Tryz
open Go Go.RowKit Go.Proofs Co Co.S Par
theorem nA(w:World)(g:Nat)(a b c:Value):w.grownBy (((w.setCell ⟨g,0,none⟩ a).setCell ⟨g,1,none⟩ b).setCell ⟨g,2,none⟩ c) (some g):=
 ⟨rfl,rfl,rfl,by simp[World.setCell],fun i _ d=>by
  have h:i≠g:=(fun e=>d (by rw[e]));rw[y9 _ _ i _ h,y9 _ _ i _ h,y9 _ _ i _ h]⟩
structure JV (W:World) (B s:Nat) (E:Nat->Value) (u:T3) (l:Nat->Bool) (vs:Nat->Value) (w:World):Prop where
 bel:Below W.heap.size W w
 ev:∀j,j≠s->l j=true->vs j=E j
 own:∃x0 x1 x2,w.heap[B]?=some (.cells #[x0,x1,x2] 32)/\(l s=true->x0=.int .i64 u.1/\x1=.int .i64 u.2.1/\x2=.string u.2.2)
section
variable{W w w':World}{B s:Nat}{E:Nat->Value}{u:T3}{l:Nat->Bool}{vs:Nat->Value}
theorem JV.up(h:JV W B s E u l vs w)(i:Nat)(hi:i≠s):JV W B s E u (fg l i) (ef vs i (E i)) w:=by
 refine⟨h.bel,fun j b a=>?_,?_⟩
 ·by_cases e:j=i
  ·subst e;rw[bI]
  rw[aO e];rw[aL e]at a;exact h.ev j b a
 obtain⟨c,d,f,g,k⟩:=h.own;exact⟨c,d,f,g,fun a=>k (by rwa [aL (fun e=>hi e.symm)]at a)⟩
theorem JV.call(h:JV W B s E u l vs w)(hb:Below w.heap.size w w')(i:Nat)(hi:i≠s):JV W B s E u (fg l i) (ef vs i (E i)) w':=by
 have a:JV W B s E u l vs w':=by
  obtain⟨b,c,d,e,f⟩:=h.own;exact⟨aC h.bel hb,h.ev,b,c,d,aE hb e,f⟩
 exact a.up i hi
theorem JV.store(h:JV W B s E u l vs w)(hB:W.heap.size<=B)(v:Value):JV W B s E u (fg l s) (ef vs s v) (((w.setCell ⟨B,0,none⟩ (.int .i64 u.1)).setCell ⟨B,1,none⟩ (.int .i64 u.2.1)).setCell ⟨B,2,none⟩ (.string u.2.2)):=by
 obtain⟨d,e,f,c,g⟩:=h.own;refine⟨bD h.bel hB _ _ _,fun j a b=>?_,_,_,_,gD c _ _ _,fun _=>⟨rfl,rfl,rfl⟩⟩;rw[aO a];rw[aL a]at b;exact h.ev j a b
theorem JV.box(h:JV W B s E u l vs w):B<w.heap.size/\(∀j,w.frozen? ⟨B,j,none⟩=false)/\(∃v,w.cell? ⟨B,0,none⟩=some v)/\(∃v,w.cell? ⟨B,1,none⟩=some v)/\∃v,w.cell? ⟨B,2,none⟩=some v:=by
 obtain⟨b,c,d,a,_⟩:=h.own;exact⟨aB a,fun j=>zq w B j _ _ a,⟨_,aA a 0⟩,⟨_,aA a 1⟩,⟨_,aA a 2⟩⟩
end
end Go.Proofs.YtkchgbjoeggdbaaGreat
namespace Go.Proofs.YtkchgbjoeggdbaaGreat
open Go.Proofs.Tryz
open Go Go.RowKit Go.Proofs Co Co.S
theorem wB{W:World}{d:Nat}{ts:List T}{st:List DT}{O:Nat->Nat}(h:Dd W d ts st O)(hi:ls ts)(hfew:bs ts)(hsz:Short ts){v:Value}{x:ByteArray}{id:Int}{p:List ByteArray}(hid:lg id)(hp:Wd W v p)(hok:(et ts x p).2.2=0):Calls prog 17 #[.pointer (some ⟨d,0,none⟩),.string x,.int .i64 id,v] W fun e w'=>e=.returned (.tuple #[.agg #[.int .i64 ((ay ts (rowsOf st) x id p).1.1),.int .i64 ((ay ts (rowsOf st) x id p).1.2.1),.string ((ay ts (rowsOf st) x id p).1.2.2)],.bool (ay ts (rowsOf st) x id p).2])/\Below W.heap.size W w':=by
 have a2:=aD W (.cells #[.int .i64 0,.int .i64 0,.string e0] 32);have k1:=z7 W (.cells #[.int .i64 0,.int .i64 0,.string e0] 32);obtain⟨w1,a3⟩:=ae (W.alloc (.cells #[.int .i64 0,.int .i64 0,.string e0] 32));obtain⟨B,hB⟩:=ae W.heap.size;rw[a3]at a2 k1;rw[hB]at k1;have h1:Dd w1 d ts st O:=h.later a2;have b6:=hp.later a2;have hs:=aY (W:=w1) h1.dlt;obtain⟨mv,f4⟩:=h1.sp;have hc:=fE (tb:=x) f4 b6;obtain⟨cc,f5⟩:=ae (et ts x p)
 have j6:1<=p.length/\p.length<=4:=by
  unfold et at hok;split at hok
  ·exact absurd hok (by decide)
  omega
 have a4:(pcol ts x (p.drop 0)).2.2=0:=by
  unfold et at hok;rw[zu (by omega)]at hok;exact hok
 obtain⟨n,hn⟩:=ae p.length;obtain⟨q,a5,rfl,f6,hm⟩:=b6.slice;obtain⟨bp,A,rfl,j7,f7⟩:=Wd.word b6 (i:=0) (by omega);rw[hok]at hc;rw[f5]at hc;obtain⟨⟨nm,kd,mu,tg⟩,s2,er⟩:=cc;dsimp only at hc;rw[show dy ⟨nm,kd,mu,tg⟩=.agg #[.string nm,.int .i64 kd,.bool mu,.string tg]from rfl]at hc;have R:=(yH (by omega:0<p.length) a4).1
 have S:Hid (∀w,Below W.heap.size W w->∀j (hj:j<p.length),w.cell? ⟨bp,A+j,none⟩=some (.string p[j])/\bp<w.heap.size):=aa (fun w Y j hj=>by
  obtain⟨b',o',e,h1,h2⟩:=Wd.word (hp.later Y) hj;cases e;exact⟨h2,h1⟩)
 have HD:Hid (∀w,Below W.heap.size W w->Dd w d ts st O):=aa (fun w Y=>h.later Y);have HF:Hid (ls ts/\bs ts/\Short ts/\lg id/\p.length=n/\1<=n/\n<=4/\(et ts x p).2.2=0/\(pcol ts x (p.drop 0)).2.2=0/\cp (dq ts x) (p[0]'(by omega))=true):=aa ⟨hi,hfew,hsz,hid,hn,by omega,by omega,hok,a4,R⟩;have HW:=aa (ab a3 (ab hB (ab a2 k1)));obtain⟨tb,V⟩:=h.get hsz R;obtain⟨y0,c4⟩:=ae (p[0]'(by omega));rw[c4]at V;obtain⟨o,f8⟩:=ae (cellP ts (rowsOf st) x id y0);obtain⟨ok,J⟩:=ae (di (jb ts (rowsOf st) x) id)
 have HG:Hid (∀w,Below W.heap.size W w->(Calls prog 36 #[.pointer (some ⟨d,0,none⟩),.string x] w fun e w'=>e=.returned (.pointer (some ⟨tb,0,none⟩))/\w'=w)/\Calls prog 45 #[.pointer (some ⟨tb,0,none⟩),.int .i64 id,.string y0] w fun e w'=>e=.returned (.tuple #[.agg #[.int .i64 o.1,.int .i64 o.2.1,.string o.2.2],.bool ok])/\Below w.heap.size w w'):=aa (fun w Y=>by
  have hg:=(V w Y).2 id hid;rw[f8,J]at hg;exact⟨(V w Y).1,hg⟩)
 have HV:Hid (∀r,(if ok=true then(oh ts (rowsOf st) x id p,true)else(z3,false))=r->ay ts (rowsOf st) x id p=r):=aa (fun r hr=>by
  rw[<-hr];unfold ay;by_cases e:ok=true
  ·rw[zw ⟨hok,by rw[J];exact e⟩,zw e]
  rw[zu (fun h=>e (by rw[<-J];exact h.2)),zu e])
 have f9:Hid (p[0]'(by omega)=y0/\di (jb ts (rowsOf st) x) id=ok):=aa ⟨c4,J⟩;have j8:(0:Int)<(n:Int):=(by omega);have i2:0<n:=(by omega);rw[hn]at hc;rw[hn]at f6;obtain⟨res,a6⟩:=ae (ay ts (rowsOf st) x id p);rw[a6,hn];have a7:=aa a6;clear f7;clear a3 hB a2 k1 h h1 hp b6 f4 f5 a4 R c4 f8 J hi hfew hsz hid hok V a6;unfold maxLen at hm;go_enter func17,ntmps17;go_upto_region 1 with fail;rw[HW.1,HW.2.1]
 go_upto_region 2 with (first|(go_at_call 37;(with_reducible refine hs.mono ?_);rintro e w2⟨rfl,Y⟩;subst w2;clear hs)|(go_at_call 44;(with_reducible refine hc.mono ?_);rintro e w3⟨rfl,c5⟩;have g0:=aD w3 (.cells #[.string nm,.int .i64 kd,.bool mu,.string tg] 107);have H3:=aa (aC HW.2.2.1 (aC c5 g0));have i3:=aa (aE c5 HW.2.2.2);clear hc c5 g0))
 have g1:=aE (aD w3 (.cells #[.string nm,.int .i64 kd,.bool mu,.string tg] 107)) i3.out;have g2:=aa g1;clear g1;generalize w3.alloc _=w4 at H3 g2 ⊢;go_upto_region 4 with fail;refine Par.ms 14 11 12 9 (w4.heap.size) 32 (#[.int .i64 0,.int .i64 0,.string e0]) (Par.AQ) (fun y=>Below w4.heap.size w4 y) (Par.Am [(.eq (.pointer (some ⟨d,0,none⟩))),(.eq (.string x)),(.eq (.pointer (some ⟨tb,0,none⟩))),(.eq (.int .i64 id)),(.eq (.slice (some ⟨bp,A,none⟩) n a5)),(.eq (.pointer (some ⟨bp,A,none⟩))),(.eq (.string y0)),(.eq (.tuple #[.agg #[.int .i64 o.1,.int .i64 o.2.1,.string o.2.2],.bool ok])),(.eq (.tuple #[.agg #[.int .i64 o.1,.int .i64 o.2.1,.string o.2.2],.bool ok])),(.eq (.agg #[.int .i64 o.1,.int .i64 o.2.1,.string o.2.2])),(.eq (.bool ok)),(.any),(.any),(.eq (.bool ok))]) ?A1 ?hm1 ?hB1 (fun w w' h ht=>h.trans ht.below) (Par.Am.mono _) (fun w h=>h.size) ?hA1 (aG w4) (by decide) (by decide) (by decide) (by kernel_rfl) (by kernel_rfl) (by decide) ?hop1 ?hT1
 case hm1=>kernel_rfl
 case hB1=>kernel_rfl
 case hA1 =>
  intro vs;simp only[Par.am,Par.ai,Act.put,eh,ez,dz,eo,ew,ey,ed];rfl
 case hop1 =>
  have i4:(List.range 14).map (Par.ki 11 12)=[.val,.val,.val,.val,.val,.val,.val,.val,.val,.val,.val,.new,.put,.val]:=rfl;simp only[i4,en,zh,Par.cw,yo];refine⟨fun vs w F f=>?_,fun vs w F f=>?_,fun vs w F f=>?_,fun vs w F f=>?_,fun vs w F f=>?_,fun vs w F f=>?_,fun vs w F f=>?_,fun vs w F f=>?_,fun vs w F f=>?_,fun vs w F f=>?_,fun vs w F f=>?_,fun vs w F=>?_,fun vs w g F f a I=>?_,fun vs w F f=>?_⟩
  ·clear f;simp only[Par.af];go_simp;all_goals exact⟨rfl,zg _ _⟩
  ·clear f;simp only[Par.af];go_simp;all_goals exact⟨rfl,zg _ _⟩
  ·have d0:=f 0 (by decide) (by decide) (by decide) (by kernel_rfl);replace d0:vs 0=.pointer (some ⟨d,0,none⟩):=d0;have d1:=f 1 (by decide) (by decide) (by decide) (by kernel_rfl);replace d1:vs 1=.string x:=d1;clear f;simp only[Par.af,d0,d1];go_simp;exact((HG.out w (aC H3.out F)).1).mono (fun e i5 h=>⟨_,h.1,⟨rfl,h.2▸zg _ _⟩⟩)
  ·clear f;simp only[Par.af];go_simp;all_goals exact⟨rfl,zg _ _⟩
  ·clear f;simp only[Par.af];go_simp;all_goals exact⟨rfl,zg _ _⟩
  ·have d4:=f 4 (by decide) (by decide) (by decide) (by kernel_rfl);replace d4:vs 4=(.slice (some ⟨bp,A,none⟩) n a5):=d4;clear f;simp only[Par.af,d4];go_simp;all_goals exact⟨rfl,zg _ _⟩
  ·have d5:=f 5 (by decide) (by decide) (by decide) (by kernel_rfl);replace d5:vs 5=.pointer (some ⟨bp,A,none⟩):=d5;have k:=((S.out w (aC H3.out F)) 0 (by rw[HF.2.2.2.2.1];exact i2));rw[f9.1]at k;rw[Nat.add_zero]at k;have k0:=k.1;have k1:=k.2;clear k;clear f;simp only[Par.af,d5];go_simp;all_goals exact⟨rfl,zg _ _⟩
  ·have d2:=f 2 (by decide) (by decide) (by decide) (by kernel_rfl);replace d2:vs 2=.pointer (some ⟨tb,0,none⟩):=d2;have d3:=f 3 (by decide) (by decide) (by decide) (by kernel_rfl);replace d3:vs 3=.int .i64 id:=d3;have d6:=f 6 (by decide) (by decide) (by decide) (by kernel_rfl);replace d6:vs 6=.string y0:=d6;clear f;simp only[Par.af,d2,d3,d6];go_simp;exact((HG.out w (aC H3.out F)).2).mono (fun e i5 h=>⟨_,h.1,⟨rfl,h.2⟩⟩)
  ·have d7:=f 7 (by decide) (by decide) (by decide) (by kernel_rfl);replace d7:vs 7=.tuple #[.agg #[.int .i64 o.1,.int .i64 o.2.1,.string o.2.2],.bool ok]:=d7;clear f;simp only[Par.af,d7];go_simp;all_goals exact⟨rfl,zg _ _⟩
  ·have Q:=f 8 (by decide) (by decide) (by decide) (by kernel_rfl);replace Q:vs 8=.tuple #[.agg #[.int .i64 o.1,.int .i64 o.2.1,.string o.2.2],.bool ok]:=Q;clear f;simp only[Par.af,Q];go_simp;all_goals exact⟨rfl,zg _ _⟩
  ·have Q:=f 8 (by decide) (by decide) (by decide) (by kernel_rfl);replace Q:vs 8=.tuple #[.agg #[.int .i64 o.1,.int .i64 o.2.1,.string o.2.2],.bool ok]:=Q;clear f;simp only[Par.af,Q];go_simp;all_goals exact⟨rfl,zg _ _⟩
  ·clear F;simp only[Par.af];go_simp;all_goals exact⟨rfl,rfl⟩
  ·have d9:=f 9 (by decide) (by decide) (by decide) (by kernel_rfl);replace d9:vs 9=.agg #[.int .i64 o.1,.int .i64 o.2.1,.string o.2.2]:=d9;have z0:=aA I 0;have z1:=aA I 1;have z2:=aA I 2;have zf:=(fun i=>zq w g i _ _ I);have zl:=aB I;have HZ:=aa I;clear F f I;simp only[Par.af,a,d9];go_simp;exact⟨nA w g _ _ _,gD HZ.out _ _ _⟩
  have G:=f 10 (by decide) (by decide) (by decide) (by kernel_rfl);replace G:vs 10=.bool ok:=G;clear f;simp only[Par.af,G];go_simp;all_goals exact⟨rfl,zg _ _⟩
 intro vs w' g F Z a i6 I;simp only[ex,ym];have d0:=Z 0 (by decide) (by decide) (by decide);replace d0:vs 0=.pointer (some ⟨d,0,none⟩):=d0;have d1:=Z 1 (by decide) (by decide) (by decide);replace d1:vs 1=.string x:=d1;have d2:=Z 2 (by decide) (by decide) (by decide);replace d2:vs 2=.pointer (some ⟨tb,0,none⟩):=d2;have d3:=Z 3 (by decide) (by decide) (by decide);replace d3:vs 3=.int .i64 id:=d3;have d4:=Z 4 (by decide) (by decide) (by decide);replace d4:vs 4=(.slice (some ⟨bp,A,none⟩) n a5):=d4;have d5:=Z 5 (by decide) (by decide) (by decide);replace d5:vs 5=.pointer (some ⟨bp,A,none⟩):=d5;have d6:=Z 6 (by decide) (by decide) (by decide);replace d6:vs 6=.string y0:=d6;have d7:=Z 7 (by decide) (by decide) (by decide);replace d7:vs 7=.tuple #[.agg #[.int .i64 o.1,.int .i64 o.2.1,.string o.2.2],.bool ok]:=d7;have Q:=Z 8 (by decide) (by decide) (by decide);replace Q:vs 8=.tuple #[.agg #[.int .i64 o.1,.int .i64 o.2.1,.string o.2.2],.bool ok]:=Q;have d9:=Z 9 (by decide) (by decide) (by decide);replace d9:vs 9=.agg #[.int .i64 o.1,.int .i64 o.2.1,.string o.2.2]:=d9;have G:=Z 10 (by decide) (by decide) (by decide);replace G:vs 10=.bool ok:=G;have b7:=Z 13 (by decide) (by decide) (by decide);replace b7:vs 13=.bool ok:=b7;clear Z;rw[d9]at I;simp only[a,d0,d1,d2,d3,d4,d5,d6,d7,Q,d9,G,b7];clear a d0 d1 d2 d3 d4 d5 d6 d7 Q d9 G b7;have g3:w'.heap[B]?=some (.cells #[.int .i64 0,.int .i64 0,.string e0] 32):=aE F g2.out;have H5:=aa (aC H3.out F);have c6:=aa g3;obtain⟨w5,rfl⟩:∃x,x=w':=⟨_,rfl⟩;clear F I i6 g3
 have g4:Hid (∀(w wz:World) (a b c:Value),Below W.heap.size W w->w.heap[B]?=some (.cells #[.int .i64 0,.int .i64 0,.string e0] 32)->((w.setCell ⟨B,0,none⟩ a).setCell ⟨B,1,none⟩ b).setCell ⟨B,2,none⟩ c=wz ->
   wz.cell? ⟨B,0,none⟩=some a/\wz.cell? ⟨B,1,none⟩=some b/\wz.cell? ⟨B,2,none⟩=some c/\Below W.heap.size W wz):=aa (fun w wz a b c hb I e=>by
  subst e;have h3:=gD I a b c;exact⟨aA h3 0,aA h3 1,aA h3 2,bD hb (xn HW.2.1) _ _ _⟩)
 have a8:Hid (∀(w:World),w.heap[B]?=some (.cells #[.int .i64 0,.int .i64 0,.string e0] 32)->B<w.heap.size/\w.cell? ⟨B,0,none⟩=some (.int .i64 0)/\w.cell? ⟨B,1,none⟩=some (.int .i64 0)/\w.cell? ⟨B,2,none⟩=some (.string e0)/\∀i,w.frozen? ⟨B,i,none⟩=false):=aa (fun w I =>
  ⟨aB I,aA I 0,aA I 1,aA I 2,fun i=>zq w B i _ _ I⟩)
 cases ok with
 | false =>
  obtain⟨zl,z0,z1,z2,zf⟩:=a8.out _ c6.out;obtain rfl:res=(z3,false):=a7.out.symm.trans (HV.out _ rfl);go_wp2_with fail;generalize c7:((World.setCell _ _ _).setCell _ _).setCell _ _=wz;obtain⟨y0,y1,y2,c8⟩:=g4.out _ _ _ _ _ H5.out c6.out c7;refine y8 (v:=.tuple #[.agg #[.int .i64 0,.int .i64 0,.string e0],.bool false]) (by simp[results,results17,go_sem,y0,y1,y2]) rfl ?_;exact⟨rfl,c8⟩
 | true =>
  have a9:(oh ts (rowsOf st) x id (p.drop 0),true)=res:=(HV.out _ rfl).symm.trans a7.out;have i7:=aa a9;clear a9 HV a7;obtain⟨k,rfl⟩:∃k,n=k+1:=⟨n-1,by omega⟩;have i8:((k:Int)+1)-1=(k:Int):=(by omega);go_wp2_with fail;go_loopg [1,2,57] (k+1) (fun gh xv iv jv w=>∃(j:Nat) (X:ByteArray) (ii:Int),jv=.int .i64 (j:Int)/\xv=.string X/\iv=.int .i64 ii/\j<=k/\k+1<=j+gh/\(pcol ts X (p.drop j)).2.2=0/\di (jb ts (rowsOf st) X) ii=true/\lg ii/\(oh ts (rowsOf st) X ii (p.drop j),true)=res/\Below W.heap.size W w/\w.heap[B]?=some (.cells #[.int .i64 0,.int .i64 0,.string e0] 32))
  case atStart=>exact⟨0,x,id,rfl,rfl,rfl,zj _,by omega,HF.2.2.2.2.2.2.2.2.1,f9.2,HF.2.2.2.1,i7.out,H5.out,c6.out⟩
  case round =>
   obtain⟨j,X,ii,rfl,rfl,rfl,hj,hg,c9,b0,e1,L,hB,hZ⟩:=hrel;have HN:=aa hn;have b1:j<p.length:=(by omega);obtain⟨M,U⟩:=yH b1 c9;obtain⟨b8,H⟩:=(HD.out W (zg _ _)).get HF.2.2.1 M;obtain⟨y,hy⟩:=ae (p[j]);rw[hy]at M H;obtain⟨u,hu⟩:=ae (cellP ts (rowsOf st) X ii y);have HY:=aa hy
   have e2:Hid (∀w,Below W.heap.size W w->(Calls prog 36 #[.pointer (some ⟨d,0,none⟩),.string X] w fun e w'=>e=.returned (.pointer (some ⟨b8,0,none⟩))/\w'=w)/\Calls prog 45 #[.pointer (some ⟨b8,0,none⟩),.int .i64 ii,.string y] w fun e w'=>e=.returned (.tuple #[.agg #[.int .i64 u.1,.int .i64 u.2.1,.string u.2.2],.bool true])/\Below w.heap.size w w'):=aa (fun w Y=>by
    have hg:=(H w Y).2 ii e1;rw[hu,b0]at hg;exact⟨(H w Y).1,hg⟩)
   clear H;by_cases j9:j<k
   ·have k2:(j:Int)<(k:Int):=(by omega);have g5:=S.out wr hB j b1;rw[hy]at g5;obtain⟨a3,i9⟩:=g5;obtain⟨k3,c1⟩:=(HD.out wr hB).sp;have b9:=sW (x:=X) (c:=y) c1;obtain⟨c2,e3⟩:=ae (sg (dt (nu (bg ts X)).cols y));have g6:c2.tgt=ou ts X y:=(by rw[<-e3];rfl);have g7:cp (nu (bg ts X)).cols y=true:=M;rw[e3,g7]at b9;obtain⟨b2,b3,b4,E⟩:=c2;rw[show dy ⟨b2,b3,b4,E⟩=.agg #[.string b2,.int .i64 b3,.bool b4,.string E]from rfl]at b9;have N:E=ou ts X y:=g6;have e4:=U (by omega);rw[hy,<-N]at e4;have P:=(fun w(hb:Below W.heap.size W w)=>gR (HD.out w hb) HF.1 HF.2.1 HF.2.2.1 E u);obtain⟨rr,b5⟩:=ae (bi ts (rowsOf st) E u);rw[b5]at P
    have g8:rr=none->(z3,true)=res:=fun e=>by
     rw[<-L,FU b1 (by omega) (by rw[hy,hu,<-N,b5];exact e)]
    have g9:∀i,rr=some i->(oh ts (rowsOf st) E i (p.drop (j+1)),true)=res/\di (jb ts (rowsOf st) E) i=true/\lg i:=fun i e=>by
     have hm:=vZ (b5.trans e);refine⟨?_,hm,(HD.out wr hB).f64 hm⟩;rw[<-L,GD b1 (by omega) (by rw[hy,hu,<-N,b5];exact e),hy,<-N]
    have e5:=aa (ab g8 (ab g9 e4));have j0:=aa P;have a0:=aa (ab hB hZ);clear c9 b0 e1 L hB hZ U M hy hu c1 e3 g7 g6 N e4 P b5 g8 g9;go_upto_region 12 with (go_at_call 46;(with_reducible refine b9.mono ?_);rintro e w6⟨rfl,h0⟩;have h4:=aD w6 (.cells #[.string b2,.int .i64 b3,.bool b4,.string E] 107);have k7:=z7 w6 (.cells #[.string b2,.int .i64 b3,.bool b4,.string E] 107);have H7:=aa (ab (aC h0 h4) k7);clear b9 h0 h4 k7);obtain⟨w7,e6⟩:=ae (w6.alloc (.cells #[.string b2,.int .i64 b3,.bool b4,.string E] 107));obtain⟨C2,e7⟩:=ae w6.heap.size;rw[e6,e7]at H7;rw[e6,e7];clear e6 e7;have e8:=aC a0.1 H7.1;obtain⟨h5,h6⟩:=e2.out w7 e8;clear a3 i9
    go_upto_region 13 with (first|(go_at_call 36;(with_reducible refine h5.mono ?_);rintro e w8⟨rfl,Y⟩;subst w8;clear h5)|(go_at_call 45;(with_reducible refine h6.mono ?_);rintro e w8⟨rfl,h7⟩;have h8:=aD w8 (.cells #[.int .i64 u.1,.int .i64 u.2.1,.string u.2.2] 32);have k9:=z7 w8 (.cells #[.int .i64 u.1,.int .i64 u.2.1,.string u.2.2] 32);have H9:=aa (ab (aC h7 h8) k9);clear h6 h7 h8 k9))
    obtain⟨w9,e9⟩:=ae (w8.alloc (.cells #[.int .i64 u.1,.int .i64 u.2.1,.string u.2.2] 32));obtain⟨C3,f0⟩:=ae w8.heap.size;rw[e9,f0]at H9;rw[e9,f0];clear e9 f0;have f1:=aC e8 H9.1;have m2:=aE H9.1 H7.2;have m3:=H9.2;have z3:=aA m2 3;have zl:=aB m2;have q0:=aA m3 0;have q1:=aA m3 1;have q2:=aA m3 2;have ql:=aB m3;have P:=j0.out w9 f1;have f2:=aa (ab f1 m2);clear f1 m2 m3 e8;cases rr with
    | none =>
     have j1:=aa (e5.1 rfl);go_upto_region 15 with (go_at_call 47;(with_reducible refine P.mono ?_);rintro e j2⟨rfl,t⟩;have a1:=aa (ab (aC f2.1 t) (aE (aC H7.1 (aC H9.1 t)) a0.2));clear P t);clear z3 zl q0 q1 q2 ql;obtain⟨zl,z0,z1,z2,zf⟩:=a8.out _ a1.2;have f3:=j1.out;go_wp2_with fail;generalize c7:((World.setCell _ _ _).setCell _ _).setCell _ _=wz;obtain⟨y0,y1,y2,c8⟩:=g4.out _ _ _ _ _ a1.1 a1.2 c7;refine y8 (v:=.tuple #[.agg #[.int .i64 0,.int .i64 0,.string e0],.bool true]) (by simp[results,results17,go_sem,y0,y1,y2]) rfl ?_;rw[<-f3];exact⟨rfl,c8⟩
    | some i =>
     obtain⟨v1,v2,v3⟩:=e5.2.1 i rfl;have c0:=aa (ab v1 (ab v2 (ab v3 e5.2.2)));clear v1 v2 v3;go_upto_region 16 with (go_at_call 47;(with_reducible refine P.mono ?_);rintro e j2⟨rfl,t⟩;have a1:=aa (ab (aC f2.1 t) (aE (aC H7.1 (aC H9.1 t)) a0.2));have m4:=aE t f2.2;clear P t);clear z3 zl q0 q1 q2 ql;have z3:=aA m4 3;have zl:=aB m4;clear m4;go_wp2_with fail;go_roundg (k-j)
     case measure=>omega
     case rel=>exact⟨j+1,E,i,rfl,rfl,rfl,by omega,by omega,c0.2.2.2,c0.2.1,c0.2.2.1,c0.1,a1.1,a1.2⟩
   ·obtain rfl:j=k:=(by omega);have h9:(u,true)=res:=(by rw[<-L,Gb b1 (by omega),hy,hu]);have a0:=aa (ab hB hZ);have j3:=aa h9;clear c9 b0 e1 L hB hZ U M hy hu h9;have k4:(j:Int)<(j:Int)+1:=(by omega);go_upto_region 18 with fail;refine Par.bo 13 (JV W B 11 (fun j4=>[.pointer (some ⟨d,0,none⟩),.string X,.pointer (some ⟨b8,0,none⟩),.int .i64 ii,.slice (some ⟨bp,A,none⟩) (j+1) a5,.int .i64 (j:Int),.pointer (some ⟨bp,A+j,none⟩),.string y,.tuple #[.agg #[.int .i64 u.1,.int .i64 u.2.1,.string u.2.2],.bool true],.agg #[.int .i64 u.1,.int .i64 u.2.1,.string u.2.2],.bool true,undef,.bool true].getD j4 undef) u) ?AL ?hmL ?hBL ?hAL ?hJL ?hopL ?hTL
    case hmL=>kernel_rfl
    case hBL=>kernel_rfl
    case hAL =>
     intro vs;simp only[Par.am,Par.ai,Act.put,eh,ez,dz,eo,ew,ey,ed];rfl
    case hopL =>
     simp only[en,zh,Par.ce,yo];and_intros<;>intro l vs w m hl f s
     ·have z:=aa m;clear m f s;simp only[Par.af];go_simp;all_goals exact z.out.up 0 (by decide)
     ·have z:=aa m;clear m f s;simp only[Par.af];go_simp;all_goals exact z.out.up 1 (by decide)
     ·have z:=aa m;have d0:vs 0=.pointer (some ⟨d,0,none⟩):=m.ev 0 (by decide) (f 0 (by kernel_rfl));have d1:vs 1=.string X:=m.ev 1 (by decide) (f 1 (by kernel_rfl));have hc:=(e2.out w m.bel).1;clear m f s;simp only[Par.af,d0,d1];go_simp;refine hc.mono ?_;rintro e y2⟨rfl,Y⟩;exact⟨_,rfl,z.out.call (Y▸zg _ _) 2 (by decide)⟩
     ·have z:=aa m;clear m f s;simp only[Par.af];go_simp;all_goals exact z.out.up 3 (by decide)
     ·have z:=aa m;clear m f s;simp only[Par.af];go_simp;all_goals exact z.out.up 4 (by decide)
     ·have z:=aa m;clear m f s;simp only[Par.af];go_simp;all_goals exact z.out.up 5 (by decide)
     ·have z:=aa m;have d4:vs 4=.slice (some ⟨bp,A,none⟩) (j+1) a5:=m.ev 4 (by decide) (f 4 (by kernel_rfl));have d5:vs 5=.int .i64 (j:Int):=m.ev 5 (by decide) (f 5 (by kernel_rfl));clear m f s;simp only[Par.af,d4,d5];go_simp;all_goals exact z.out.up 6 (by decide)
     ·have z:=aa m;have d6:vs 6=.pointer (some ⟨bp,A+j,none⟩):=m.ev 6 (by decide) (f 6 (by kernel_rfl));have k:=S.out w m.bel j (by rw[HN.out];exact IW j);rw[HY.out]at k;have k0:=k.1;have k1:=k.2;clear k;clear m f s;simp only[Par.af,d6];go_simp;all_goals exact z.out.up 7 (by decide)
     ·have z:=aa m;have d2:vs 2=.pointer (some ⟨b8,0,none⟩):=m.ev 2 (by decide) (f 2 (by kernel_rfl));have d3:vs 3=.int .i64 ii:=m.ev 3 (by decide) (f 3 (by kernel_rfl));have d7:vs 7=.string y:=m.ev 7 (by decide) (f 7 (by kernel_rfl));have hc:=(e2.out w m.bel).2;clear m f s;simp only[Par.af,d2,d3,d7];go_simp;refine hc.mono ?_;rintro e y2⟨rfl,hb⟩;exact⟨_,rfl,z.out.call hb 8 (by decide)⟩
     ·have z:=aa m;have Q:vs 8=.tuple #[.agg #[.int .i64 u.1,.int .i64 u.2.1,.string u.2.2],.bool true]:=m.ev 8 (by decide) (f 8 (by kernel_rfl));clear m f s;simp only[Par.af,Q];go_simp;all_goals exact z.out.up 9 (by decide)
     ·have z:=aa m;have Q:vs 8=.tuple #[.agg #[.int .i64 u.1,.int .i64 u.2.1,.string u.2.2],.bool true]:=m.ev 8 (by decide) (f 8 (by kernel_rfl));clear m f s;simp only[Par.af,Q];go_simp;all_goals exact z.out.up 10 (by decide)
     ·have z:=aa m;have d9:vs 9=.agg #[.int .i64 u.1,.int .i64 u.2.1,.string u.2.2]:=m.ev 9 (by decide) (f 9 (by kernel_rfl));have yz:=m.box.1;have yf:=m.box.2.1;obtain⟨v0,k5⟩:=m.box.2.2.1;obtain⟨v1,k6⟩:=m.box.2.2.2.1;obtain⟨v2,k8⟩:=m.box.2.2.2.2;clear m f s;simp only[Par.af,d9];go_simp;all_goals exact z.out.store (xn HW.2.1) _
     ·have z:=aa m;have G:vs 10=.bool true:=m.ev 10 (by decide) (f 10 (by kernel_rfl));clear m f s;simp only[Par.af,G];go_simp;all_goals exact z.out.up 12 (by decide)
    case hJL =>
     intro vs;exact⟨aC a0.1 (aG wr),fun _ _ h=>(by cases h),_,_,_,aE (aG wr) a0.2,fun h=>(by cases h)⟩
    case hTL =>
     intro l vs w' hl m;simp only[ex,ym];obtain⟨x0,x1,x2,hx,i0⟩:=m.own;obtain⟨rfl,rfl,rfl⟩:=i0 (hl 11 (by decide));have j5:vs 12=.bool true:=m.ev 12 (by decide) (hl 12 (by decide));simp only[j5];have c3:=m.bel;have y0:=aA hx 0;have y1:=aA hx 1;have y2:=aA hx 2;have HE:=aa c3;have f3:=j3.out;clear m hl hx i0 c3;go_wp2_with fail;refine y8 (v:=.tuple #[.agg #[.int .i64 u.1,.int .i64 u.2.1,.string u.2.2],.bool true]) (by simp[results,results17,go_sem,y0,y1,y2]) rfl ?_;rw[<-f3];exact⟨rfl,HE.out⟩
