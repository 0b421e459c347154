import Derived.Test.YtkchgbjoeggdbaaGreatZn35
import Derived.Test.YtkchgbjoeggdbaaGreatZn42
set_option maxHeartbeats 4000000
set_option maxRecDepth 100000
namespace Go.Proofs.YtkchgbjoeggdbaaGreat.Ix
open Go.Proofs.Tryz
open Go Go.RowKit Go.Shelf Go.Proofs Go.Proofs.YtkchgbjoeggdbaaGreat Go.Proofs.YtkchgbjoeggdbaaGreat.Co Go.Proofs.YtkchgbjoeggdbaaGreat.Co.S
attribute [local go_sem] Oper.semAt_some
attribute [local go_sem] pK pL bH aR
variable{M:Nat}
theorem oe.apart{W:World}{nb:Nat}{cs:Array Value}{t:TypeId}(hh:W.heap[nb]?=some (.cells cs t))(hs:cs.size<7):∀{u:Lb M},oe W u->¬ u.has nb
 | .nil,_,h=>h
 | .nd _ _ _ _ _,⟨⟨_,hn⟩,hl,hr⟩,h=>by
  rcases h with rfl|h|h
  ·have:=hn.c4
   rw[aA hh 6,wt (by omega)]at this;cases this
  ·exact hl.apart hh hs h
  ·exact hr.apart hh hs h
structure AG (b0 F:Nat) (ks:List T3) (k:Nat) (S:Nat->Prop) (w:World):Prop where
 row:∃p c,w.heap[F]?=some (.cells #[.slice p k c] 35)/\ac w b0 32 3 (.slice p k c) k (cells3 (ks.take k))/\∀q,(Value.slice p k c).ownBlock=some q->S q
 sF:S F
theorem AG.loc{b0 F:Nat}{ks:List T3}{k:Nat}{S:Nat->Prop}{w w':World}(h:AG b0 F ks k S w)(hb:∀b,S b->w'.heap[b]?=w.heap[b]?):AG b0 F ks k S w':=by
 obtain⟨p,c,d,e,a⟩:=h.row;exact⟨⟨p,c,(hb F h.sF).trans d,e.of (fun q f=>hb q (a q f)),a⟩,h.sF⟩
theorem dQ(a b:List T3):cells3 (a++b)=cells3 a++cells3 b:=by
 unfold cells3;rw[List.flatMap_append]
theorem AG.add{F k:Nat}{ks:List T3}{T:Nat->Prop}{W1:World}(hT:∀b,T b->F<=b)(h:AG F F ks k T W1)(hin:fi T W1)(hk:k<ks.length)(hk2:k+1<=1000000){a:T3}(ha:ks[k]=a):∃i c1 c g d,W1.heap[F]?=some (.cells #[.slice i k c1] 35)/\(Builtin.append_ #[35,35] 35 #[.slice i k c1,.slice (some ⟨W1.heap.size,0,none⟩) 1 1]).run prog (W1.alloc (.cells #[.int .i64 a.1,.int .i64 a.2.1,.string a.2.2] 32))=.ok (.slice (some ⟨c,0,none⟩) (k+1) g) d/\d.heap[F]?=some (.cells #[.slice i k c1] 35)/\∃u,Grows T u W1/\fi u (d.setCell ⟨F,0,none⟩ (.slice (some ⟨c,0,none⟩) (k+1) g))/\Chg T W1 (d.setCell ⟨F,0,none⟩ (.slice (some ⟨c,0,none⟩) (k+1) g))/\AG F F ks (k+1) u (d.setCell ⟨F,0,none⟩ (.slice (some ⟨c,0,none⟩) (k+1) g))/\∀b,u b->F<=b:=by
 obtain⟨i,c1,v,H,I⟩:=h.row;have O:=hin F h.sF;obtain⟨c,g,d,n,r1,m,L⟩:=Co.S.lj W1 F H hk2 (by omega) a.1 a.2.1 a.2.2;have j:(W1.alloc (.cells #[.int .i64 a.1,.int .i64 a.2.1,.string a.2.2] 32)).heap.size=W1.heap.size+1:=(by simp);have w:=m.size;rw[j]at w
 have o:(Value.slice i k c1).ownBlock≠some F:=fun e=>by
  obtain⟨_,x,p⟩:=ac.block H F e;rw[v]at p;cases p
 have r:=aD W1 (.cells #[.int .i64 a.1,.int .i64 a.2.1,.string a.2.2] 32);have l:d.heap[F]?=some (.cells #[.slice i k c1] 35):=(m.block F (by rw[j];omega) (fun e=>o e.symm)).trans (aE r v);have s:=y7 d F 0 _ 35 (.slice (some ⟨c,0,none⟩) (k+1) g) l
 have y:c≠F:=fun e=>by
  obtain⟨_,x,p⟩:=ac.block r1 c rfl;rw[e,l]at p;cases p
 have z:=(ac.lt r1 c rfl).2;have M:=(ac.lt r1 c rfl).1;have t:(d.setCell ⟨F,0,none⟩ (.slice (some ⟨c,0,none⟩) (k+1) g)).heap.size=d.heap.size:=(by simp);refine⟨i,c1,c,g,d,v,n,l,fun b=>T b∨(W1.heap.size<=b/\b<d.heap.size),fun b f=>f.imp id (fun h=>h.1),fun b f=>?_,?_,⟨⟨some ⟨c,0,none⟩,g,s,?_,fun q A=>?_⟩,.inl h.sF⟩,fun b f=>?_⟩
 ·rw[t];rcases f with f|f
  ·have:=hin b f;omega
  exact f.2
 ·refine⟨?_,?_,?_,by rw[t];omega,fun b B J=>?_⟩
  ·exact m.os.trans r.os
  ·exact m.tape.trans r.tape
  ·exact m.output.trans r.output
  have E:b≠F:=(fun e=>J (e▸h.sF));rw[y9 d ⟨F,0,none⟩ b _ E];exact(m.block b (by rw[j];omega) (fun e=>J (I b e.symm))).trans (r.block b B)
 ·have N:cells3 (ks.take (k+1))=cells3 (ks.take k)++[.int .i64 a.1,.int .i64 a.2.1,.string a.2.2]:=by
   rw[yi hk,dQ,ha];rfl
  rw[N];exact ac.of r1 (fun q A=>y9 d ⟨F,0,none⟩ q _ (fun e=>by cases A;exact y e))
 ·cases A;rcases L with G|G
  ·exact .inl (I c G)
  exact .inr ⟨G,z⟩
 rcases f with f|f
 ·exact hT b f
 omega
theorem tU{w:World}{x:Nat}{tb:ByteArray}{p:List ByteArray}{G:List (VX M×List Int)}(h:tu w x tb p G):Calls prog 10 #[.pointer (some ⟨x,0,none⟩)] w fun e w'=>∃q c,e=.returned (.slice q G.length c)/\ac w' w.heap.size 32 3 (.slice q G.length c) G.length (cells3 (G.map fun g=>g.1.1))/\Below w.heap.size w w':=by
 have z:=aD w (.cells #[.slice none 0 0] 35);have k1:=z7 w (.cells #[.slice none 0 0] 35);obtain⟨w1,E⟩:=ae (w.alloc (.cells #[.slice none 0 0] 35));obtain⟨F,hF⟩:=ae w.heap.size;have a0:w1.heap.size=F+1:=(by rw[<-E,zm,hF]);rw[E]at z k1;rw[hF]at k1;obtain⟨pv,mb,L,hx,_,hm⟩:=(h.later z).blk;obtain⟨W0,a1⟩:=hm.mp;have a2:=yT mb L w1 a1
 have f:L.map (fun l=>l.1.1)=G.map (fun g=>g.1.1):=by
  have s:(L.map (·.1)).map (fun v:VX M=>v.1)=(G.map (·.1)).map (fun v:VX M=>v.1):=congrArg _ hm.rows.keys;rw[List.map_map,List.map_map]at s;exact s
 obtain⟨ks,a⟩:=ae (G.map (fun g=>g.1.1));have O:L.length=G.length:=(by have:=congrArg List.length hm.rows.keys;simpa using this);have a3:=hm.len;rw[a]at f ⊢;obtain⟨n,hn⟩:=ae G.length;rw[hn]at O ⊢;have x2:=aA hx 2;have xl:=aB hx;have o:=aa (ab E (ab hF (ab z (ab k1 a0))));have X:=aa (ab f (ab O a3));clear E hF z k1 a0 hx hm a1 f O a3 a hn h;refine(callsIn_wide (n:=0)).1 ?_;refine callsIn_of_wp_marks func10 rfl trivial ?_ rfl;simp only[ntmps10,List.size_toArray,xa,vc,Nat.reduceAdd,Nat.reduceSub,Array.replicate_succ,Array.replicate_zero,List.push_toArray,List.append_toArray,IU,IV];refine wpIn_wide.2 ?_;go_upto_region 4 with fail;rw[o.1,o.2.1];refine(wpIn_wide (n:=0)).1 ?_
 gi_wp2_with (gi_at_call 30;refine aI rfl ?_;(with_reducible refine a2.mono ?_);rintro e w2⟨u,rfl,P,Q,R,a8,a4⟩)
 obtain⟨c,hc⟩:=ae w1.heap.size;rw[hc]at P a8
 try rw[hc]
 have a9:F<c:=(by rw[<-hc,o.2.2.2.2];omega);have kF:=aE a4 o.2.2.2.1;have b0:¬ u.has F:=Q.apart kF (by decide);have b1:=iu c u;generalize j:({ tmps:=_,defers:=_ }:Act)=act;have I:u.az.length=n:=(by rw[R];exact X.2.1);have HU:=aa (ab R (ab I (ab a9 a4)));clear R x2 xl;refine(wpIn_wide (n:=0)).1 ?_;refine wpIn_block ?_
 refine cL (sv:=.func (.func 72) #[] #[.pointer (some ⟨c,0,none⟩)]) (by rw[<-j];rfl) b1 (fun _=>rfl)
  (fun k S w=>AG F F ks k S w/\∀b,S b->F<=b) (fun _ _ _ _=>False) ?l1 (fun _ _ _ _ _ h=>h.elim) (fun b=>b=F) ?hS ?hM ?hSM ⟨P,Q⟩ ?h0
  (fun y V=>{ tmps:=((act.tmps.setIfInBounds 12 (.agg #[.int .i64 y.1.1.1,.int .i64 y.1.1.2.1,.string y.1.1.2.2])).setIfInBounds 13 (jc y.2)).setIfInBounds 4 (.pointer (some ⟨V,0,none⟩)),defers:=[] }) (fun y=>#[.int .i64 y.1.1.1,.int .i64 y.1.1.2.1,.string y.1.1.2.2]) 32 ?pre ?body ?done (fun _ _ _ _ _ _ _ _ _ h=>h.elim)
 case l1 =>
  rintro k T A B⟨s,h2⟩ U a5 Y;exact⟨s.loc Y,h2⟩
 case hS=>rintro b rfl;exact aB kF
 case hM =>
  rintro b(rfl|h)
  ·exact P.lt
  exact Q.lt b h
 case hSM =>
  rintro b rfl(h|h)
  ·omega
  exact b0 h
 case h0=>exact⟨⟨⟨none,0,kF,ac.nil,fun q hq=>by simp[Value.ownBlock]at hq⟩,rfl⟩,fun b Y=>by have Y:b=F:=Y;omega⟩
 case pre =>
  intro l y W K hK;subst j;dsimp only[Aq]
  gi_wp2
  exact hK
 case body =>
  rintro l k hk T W1 V U a6⟨hG,hT⟩ Z b2;have b5:k<n:=(by rw[<-HU.2.1];exact hk);obtain⟨y,hy⟩:=ae (u.az[k]);rw[hy]at Z ⊢;have a:ks=u.az.map (fun l=>l.1.1):=(by rw[HU.1];exact X.1.symm);have b3:k<ks.length:=by rw[a,yd];exact hk
  have b4:ks[k]=y.1.1:=by
   subst a;rw[yw,hy]
  obtain⟨p1,c1,g',c',w',J,a7,H,S2,q1,q2,q3,q4,q5⟩:=hG.add hT U b3 (by have:=X.2.2;have:=X.2.1;omega) b4;have v0:=aA Z 0;have v1:=aA Z 1;have v2:=aA Z 2;have vl:=aB Z;have f0:=aA J 0;have fl:=aB J;have h0:=aA H 0;have hf:=(fun i=>zq w' F i _ _ H);have hl:=aB H;have HQ:=aa (ab q1 (ab q2 (ab q3 (ab q4 q5))));clear q1 q2 q3 q4 q5 J H hG hT U a6 Z b2;subst j;dsimp only
  gi_wp2_with (gi_at_builtin;refine bS rfl (.tmp 14) (.tmp 16) 35 rfl rfl rfl a7 ?_)
  obtain⟨q1,q2,q3,q4,q5⟩:=HQ.out;exact⟨S2,q1,q2,q3,q4,q5⟩
 rintro S' W' hg hi m⟨hG,hS⟩ _ hK b6;subst j;obtain⟨p2,c2,J,N,g3⟩:=hG.row;rw[I]at J N;have f0:=aA J 0;have fl:=aB J;have a:ks.length=n:=by rw[<-X.1,yd];exact X.2.1
 have d:Below F w W':=by
  have s:=o.2.2.1;rw[o.2.1]at s;have h2:Below F w1 w2:=HU.2.2.2.mono (by have:=o.2.2.2.2;omega);refine(s.trans h2).trans ⟨m.os,m.tape,m.output,m.size,fun b Y=>m.block b (by have:=o.2.2.2.2;have:=HU.2.2.2.size;omega) (fun e=>e.elim (fun e=>by have e:b=F:=e;omega) id)⟩
 have HZ:=aa (ab N (ab hK (ab a d)));clear J N g3 hG hS m hg hi d a
 gi_wp2_with fail
 refine(wpIn_wide (n:=0)).1 ?_
 gi_wp2_with fail
 refine lH (fn:=Tryz.f10) (t:=2) rfl HZ.2.1 (fun w' r a5=>?_);obtain⟨N,hK,a,d⟩:=HZ.out;rw[yu (by omega)]at N;rw[o.2.1];refine⟨p2,c2,rfl,ac.of N (fun q hq=>r.block q (ac.lt N q hq).2 (fun e=>?_)),d.trans ⟨r.os,r.tape,r.output,xn a5.symm,fun b Y=>r.block b (by have:=d.size;have:=o.2.2.2.2;omega) (fun e=>?_)⟩⟩
 ·obtain⟨_,b7,s⟩:=ac.block N q hq;have e:q=w2.heap.size:=e;rw[e,hK]at s;cases s
 have e:b=w2.heap.size:=e
 have:=HU.2.2.2.size
 have:=o.2.2.2.2
 omega
attribute [local go_sem] Oper.semAt_some
attribute [local go_sem] pK pL bH aR
variable{M:Nat}
theorem Gs{u:TypeId}(hu:prog.underlying u=some (.slice 3))(y:World)(base:Nat){p:Option Addr}{n c:Nat}{xs:List Int}(hn:xs.length=n)(hr:Ro y base (.slice p n c) xs){q:Option Addr}{m d:Nat}{ys:List Int}(hm:ys.length=m)(hs:Rd y q ys)(hnm:n+m<=1000000)(hb:base<=y.heap.size):∃s t i,(Builtin.append_ #[40,u] 40 #[.slice p n c,.slice q m d]).run prog y=.ok (.slice s (n+m) t) i/\Ro i base (.slice s (n+m) t) (xs++ys)/\y.grownBy i (Value.slice p n c).ownBlock/\(∀l,(Value.slice s (n+m) t).ownBlock=some l->(Value.slice p n c).ownBlock=some l∨y.heap.size<=l):=by
 subst hn hm;obtain⟨L,o,w,z,A⟩:=info_parts BE;rw[qF underlying40 hu];rcases List.eq_nil_or_concat ys with rfl|⟨k,r,e⟩
 ·refine⟨p,c,y,sG underlying40 o (by obtain⟨V,c2,e,h,_⟩:=ac.isslice hr;cases e;exact h),by rw[List.append_nil];exact hr,⟨rfl,rfl,rfl,zo _,fun _ _ _=>rfl⟩,fun l B=>.inl B⟩
 have a:0<ys.length:=(by rw[e,List.length_concat];omega);obtain⟨b,f,rfl,_,_⟩:=hs 0 a
 obtain⟨g,E,i,M,N,O,Q⟩:=aS (P:=prog) y base 40 40 3 L _ 1 8 underlying40 o w z A rfl (by decide) hr ⟨b,f,none⟩ ys.length d (ys.map iv) (by simp)
  (fun j v I=>by
   rw[xe]at I;obtain⟨x,R,F⟩:=Option.map_eq_some_iff.1 I;obtain⟨G,H⟩:=List.getElem?_eq_some_iff.1 R;obtain⟨W,J,S,_,c0⟩:=hs j G;cases S
   have U:(⟨b,f,none⟩:Addr).add j=⟨b,f+j,none⟩:=by
    unfold Addr.add;split
    ·rename_i h;subst h;rfl
    ·rfl
   rw[U,c0,<-F,H]) (by
   intro v F;obtain⟨x,_,rfl⟩:=List.mem_map.1 F;rfl) a (by unfold maxLen;omega) (by omega) hb
 exact⟨_,E,i,M,by unfold Ro;rw[vw,y6];exact N,O,fun l B=>by cases B;exact Q⟩
def rz(op:Int)(v:T3)(G:List (VX M×List Int)):List Int:=(G.filter fun g=>lx op g.1.1 v).flatMap (·.2)
theorem yU{op:Int}{v:T3}{G:List (VX M×List Int)}{k:Nat}(hk:k<G.length)(h:lx op G[k].1.1 v=true):rz op v (G.take (k+1))=rz op v (G.take k)++G[k].2:=by
 unfold rz;rw[yi hk,List.filter_append,List.flatMap_append];simp[h]
theorem FD{op:Int}{v:T3}{G:List (VX M×List Int)}{k:Nat}(hk:k<G.length)(h:lx op G[k].1.1 v=false):rz op v (G.take (k+1))=rz op v (G.take k):=by
 unfold rz;rw[yi hk,List.filter_append,List.flatMap_append];simp[h]
theorem FF{op:Int}{v:T3}{G:List (VX M×List Int)}(k:Nat):(rz op v (G.take k)).length<=(rz op v G).length:=by
 have h:rz op v G=rz op v (G.take k)++rz op v (G.drop k):=by
  unfold rz;rw[<-List.flatMap_append,<-List.filter_append,uc]
 rw[h,y6];omega
structure An (F:Nat) (ys:List Int) (S:Nat->Prop) (w:World):Prop where
 row:∃p c,w.heap[F]?=some (.cells #[.slice p ys.length c] 40)/\Ro w F (.slice p ys.length c) ys/\∀q,(Value.slice p ys.length c).ownBlock=some q->S q
 sF:S F
theorem An.loc{F:Nat}{ys:List Int}{S:Nat->Prop}{w w':World}(h:An F ys S w)(hb:∀b,S b->w'.heap[b]?=w.heap[b]?):An F ys S w':=by
 obtain⟨p,c,d,e,a⟩:=h.row;exact⟨⟨p,c,(hb F h.sF).trans d,ac.of e (fun q f=>hb q (a q f)),a⟩,h.sF⟩
theorem An.add{F:Nat}{ys zs:List Int}{T:Nat->Prop}{W1:World}(hT:∀b,T b->F<=b)(h:An F ys T W1)(hin:fi T W1){q:Option Addr}{d:Nat}(hz:Rd W1 q zs)(hlen:ys.length+zs.length<=1000000):∃l c1 g i a,W1.heap[F]?=some (.cells #[.slice l ys.length c1] 40)/\(Builtin.append_ #[40,40] 40 #[.slice l ys.length c1,.slice q zs.length d]).run prog W1=.ok (.slice g (ys.length+zs.length) i) a/\a.heap[F]?=some (.cells #[.slice l ys.length c1] 40)/\∃w,Grows T w W1/\fi w (a.setCell ⟨F,0,none⟩ (.slice g (ys.length+zs.length) i))/\Chg T W1 (a.setCell ⟨F,0,none⟩ (.slice g (ys.length+zs.length) i))/\An F (ys++zs) w (a.setCell ⟨F,0,none⟩ (.slice g (ys.length+zs.length) i))/\∀b,w b->F<=b:=by
 obtain⟨l,c1,y,G,H⟩:=h.row;have J:=hin F h.sF;obtain⟨g,i,a,o,r1,n,L⟩:=Gs (u:=40) underlying40 W1 F rfl G (d:=d) rfl hz hlen (by omega);have M:=n.size
 have p:(Value.slice l ys.length c1).ownBlock≠some F:=fun e=>by
  obtain⟨_,z,r⟩:=ac.block G F e;rw[y]at r;cases r
 have m:a.heap[F]?=some (.cells #[.slice l ys.length c1] 40):=(n.block F J (fun e=>p e.symm)).trans y;have s:=y7 a F 0 _ 40 (.slice g (ys.length+zs.length) i) m;have k:(ys++zs).length=ys.length+zs.length:=y6;rw[<-k]at r1
 have t:∀c,(Value.slice g (ys.length+zs.length) i).ownBlock=some c->c≠F/\F<=c/\c<a.heap.size:=fun c j=>by
  have j:(Value.slice g (ys++zs).length i).ownBlock=some c:=(by rw[k];exact j);have x:=ac.lt r1 c j;refine⟨fun e=>?_,x.1,x.2⟩;obtain⟨_,z,r⟩:=ac.block r1 c j;rw[e,m]at r;cases r
 have v:(a.setCell ⟨F,0,none⟩ (.slice g (ys.length+zs.length) i)).heap.size=a.heap.size:=(by simp);refine⟨l,c1,g,i,a,y,o,m,fun b=>T b∨(W1.heap.size<=b/\b<a.heap.size),fun b f=>f.imp id (fun h=>h.1),fun b f=>?_,?_,⟨⟨g,i,by rw[y6];exact s,?_,fun c j=>?_⟩,.inl h.sF⟩,fun b f=>?_⟩
 ·rw[v];rcases f with f|f
  ·have:=hin b f;omega
  exact f.2
 ·refine⟨n.os,n.tape,n.output,by rw[v];omega,fun b A I=>?_⟩;have B:b≠F:=(fun e=>I (e▸h.sF));rw[y9 a ⟨F,0,none⟩ b _ B];exact n.block b A (fun e=>I (H b e.symm))
 ·exact ac.of r1 (fun c j=>y9 a ⟨F,0,none⟩ c _ (t c (by rw[<-k];exact j)).1)
 ·rw[k]at j;have x:=t c j;rcases L c j with E|E
  ·exact .inl (H c E)
  exact .inr ⟨E,x.2.2⟩
 rcases f with f|f
 ·exact hT b f
 omega
attribute [local go_sem] Oper.semAt_some
attribute [local go_sem] pK pL bH aR
variable{M:Nat}
theorem FM{w:World}{x:Nat}{tb:ByteArray}{p:List ByteArray}{G:List (VX M×List Int)}(h:tu w x tb p G)(op:Int)(v:T3)(hsum:(rz op v G).length<=100000):Calls prog 11 #[.pointer (some ⟨x,0,none⟩),.int .i64 op,.agg #[.int .i64 v.1,.int .i64 v.2.1,.string v.2.2]] w (rq (ry (rz op v G)) w):=by
 obtain⟨wa,N⟩:=ae (w.alloc (.cells #[.int .i64 op] 3));obtain⟨wb,O⟩:=ae (wa.alloc (.cells #[.int .i64 v.1,.int .i64 v.2.1,.string v.2.2] 32));obtain⟨wc,P⟩:=ae (wb.alloc (.cells #[.slice none 0 0] 29));obtain⟨w1,Q⟩:=ae (wc.alloc (.cells #[.slice none 0 0] 40));obtain⟨B,hB⟩:=ae w.heap.size;have za:wa.heap.size=B+1:=(by rw[<-N,zm,hB]);have zb:wb.heap.size=B+2:=(by rw[<-O,zm,za]);have zc:wc.heap.size=B+3:=(by rw[<-P,zm,zb]);have z1:w1.heap.size=B+4:=(by rw[<-Q,zm,zc]);have ba:Below w.heap.size w wa:=(by rw[<-N];exact aD w _);have bb:Below wa.heap.size wa wb:=(by rw[<-O];exact aD wa _);have bc:Below wb.heap.size wb wc:=(by rw[<-P];exact aD wb _);have b1:Below wc.heap.size wc w1:=(by rw[<-Q];exact aD wc _);have ka:=z7 w (.cells #[.int .i64 op] 3);have kb:=z7 wa (.cells #[.int .i64 v.1,.int .i64 v.2.1,.string v.2.2] 32);have kc:=z7 wb (.cells #[.slice none 0 0] 29);have kd:=z7 wc (.cells #[.slice none 0 0] 40);rw[N,hB]at ka;rw[O,za]at kb;rw[P,zb]at kc;rw[Q,zc]at kd;replace ka:=aE b1 (aE bc (aE bb ka));replace kb:=aE b1 (aE bc kb);replace kc:=aE b1 kc;have b3:=aC (aC (aC ba bb) bc) b1;have c6:(((w.alloc (.cells #[.int .i64 op] 3)).alloc (.cells #[.int .i64 v.1,.int .i64 v.2.1,.string v.2.2] 32)).alloc (.cells #[.slice none 0 0] 29)).alloc (.cells #[.slice none 0 0] 40)=w1:=(by rw[N,O,P,Q]);clear N O P Q za zb zc ba bb bc b1 wa wb wc;obtain⟨pv,mb,L,hx,_,hm⟩:=(h.later b3).blk;obtain⟨W0,a0⟩:=hm.mp;have c7:=yT mb L w1 a0
 have a8:∀k (hk:k<L.length) (hg:k<G.length),G[k].1=L[k].1/\Ro w1 0 (jc L[k].2) G[k].2:=by
  intro k hk hg;have R:=hm.rows.keys
  have e1:G[k].1=L[k].1:=by
   have j:(L.map (·.1))[k]'(by rw[yd];exact hk)=(G.map (·.1))[k]'(by rw[yd];exact hg):=(by simp only[R]);rw[yw,yw]at j;exact j.symm
  have d9:Srt aw G:=by
   have j:(L.map (·.1)).Pairwise (fun a b=>aw a<aw b):=List.pairwise_map.2 a0.srt;rw[R]at j;rw[List.pairwise_map]at j;exact j
  have e3:=dN a0.srt (z8 hk);have e4:=dN d9 (z8 hg);obtain⟨g,h2,h3⟩:=hm.rows.row _ _ e3;rw[<-e1,e4]at h2;cases h2;exact⟨e1,h3⟩
 have c8:L.length=G.length:=(by have:=congrArg List.length hm.rows.keys;simpa using this);have c9:=hm.len;have a9:=hm.few;have x2:=aA hx 2;have xl:=aB hx;have s:=aa (ab c6 (ab hB (ab b3 (ab ka (ab kb (ab kc (ab kd z1)))))));have HL:=aa (ab a8 (ab c8 (ab c9 (ab a9 hsum))));clear c6 hB b3 ka kb kc kd z1 hx hm a0 a8 c8 c9 a9 hsum h;refine(callsIn_wide (n:=0)).1 ?_;refine callsIn_of_wp_marks func11 rfl trivial ?_ rfl;simp only[ntmps11,List.size_toArray,xa,vc,Nat.reduceAdd,Nat.reduceSub,Array.replicate_succ,Array.replicate_zero,List.push_toArray,List.append_toArray,IU,IV];refine wpIn_wide.2 ?_;go_upto_region 4 with fail;rw[s.1,s.2.1];refine(wpIn_wide (n:=0)).1 ?_
 gi_wp2_with (gi_at_call 30;refine aI rfl ?_;(with_reducible refine c7.mono ?_);rintro e w2⟨u,rfl,b4,b5,d0,e5,d1⟩)
 obtain⟨c,hc⟩:=ae w1.heap.size;rw[hc]at b4 e5
 try rw[hc]
 obtain⟨F,hF⟩:=ae (B+3);have e6:F<c:=(by have:=s.2.2.2.2.2.2.2;omega);have kF:=aE d1 s.2.2.2.2.2.2.1
 try simp only[Nat.add_assoc,Nat.reduceAdd]
 rw[hF]at kF
 try rw[hF]
 have e7:¬ u.has F:=b5.apart kF (by decide);have e8:=iu c u;generalize H:({ tmps:=_,defers:=_ }:Act)=act;have U:=aa (ab d0 (ab e6 (ab hF d1)));clear d0 x2 xl;refine(wpIn_wide (n:=0)).1 ?_;refine wpIn_block ?_
 refine cL (sv:=.func (.func 72) #[] #[.pointer (some ⟨c,0,none⟩)]) (by rw[<-H];rfl) e8 (fun _=>rfl)
  (fun k S w=>An F (rz op v (G.take k)) S w/\∀b,S b->F<=b) (fun _ _ _ _=>False) ?l1 (fun _ _ _ _ _ h=>h.elim) (fun b=>b=F) ?hS ?hM ?hSM ⟨b4,b5⟩ ?h0
  (fun y V=>{ tmps:=(((act.tmps.setIfInBounds 18 (.agg #[.int .i64 y.1.1.1,.int .i64 y.1.1.2.1,.string y.1.1.2.2])).setIfInBounds 19 (jc y.2)).setIfInBounds 8 (.pointer (some ⟨V,0,none⟩))).setIfInBounds 9 (jc y.2),defers:=[] }) (fun y=>#[.int .i64 y.1.1.1,.int .i64 y.1.1.2.1,.string y.1.1.2.2]) 32 ?pre ?body ?done (fun _ _ _ _ _ _ _ _ _ h=>h.elim)
 case l1 =>
  rintro k T A B⟨j,h2⟩ o d2 f;exact⟨j.loc f,h2⟩
 case hS=>rintro b rfl;exact aB kF
 case hM =>
  rintro b(rfl|h)
  ·exact b4.lt
  exact b5.lt b h
 case hSM =>
  rintro b rfl(h|h)
  ·omega
  exact e7 h
 case h0=>exact⟨⟨⟨none,0,kF,ac.nil,fun q hq=>by simp[Value.ownBlock]at hq⟩,rfl⟩,fun b f=>by have f:b=F:=f;omega⟩
 case pre =>
  intro l y W K hK;subst H;dsimp only[Aq]
  gi_wp2
  exact hK
 case body =>
  rintro l k hk T W1 V o b0⟨hG,hT⟩ hV e9;obtain⟨y,hy⟩:=ae (u.az[k]);rw[hy]at hV ⊢;have b6:∃h,L[k]'h=y:=(by rw[<-U.1];exact⟨hk,hy⟩);obtain⟨d3,b6⟩:=b6;have a4:k<G.length:=(by rw[<-HL.2.1];exact d3);obtain⟨r1,r2⟩:=HL.1 k d3 a4;rw[b6]at r1 r2;have b7:=U.2.2.2.size;have z1:=s.2.2.2.2.2.2.2;have keep:∀b,b<w1.heap.size->b≠F->W1.heap[b]?=w1.heap[b]?:=fun b f a5=>(b0.block b (by omega) (fun e=>e.elim (fun e=>a5 e) id)).trans (U.2.2.2.block b f)
  have hr:Ro W1 0 (jc y.2) G[k].2:=ac.of r2 (fun q hq=>keep q (ac.lt r2 q hq).2 (fun e=>by
   obtain⟨_,d4,j⟩:=ac.block r2 q hq;have kd:=s.2.2.2.2.2.2.1;rw[U.2.2.1]at kd;rw[e,kd]at j;cases j))
  obtain⟨q1,c1,es,_,_⟩:=ac.isslice hr;rw[es]at hr;have b8:=(keep B (by omega) (by have:=U.2.2.1;omega)).trans s.2.2.2.1;have kv:=(keep (B+1) (by omega) (by have:=U.2.2.1;omega)).trans s.2.2.2.2.1;obtain⟨t,ht⟩:=ae (lx op y.1.1 v);have r:=(fun w=>F9 op y.1.1 v w);rw[ht]at r;have o0:=aA b8 0;have ol:=aB b8;have e0:=aA kv 0;have e1:=aA kv 1;have e2:=aA kv 2;have el:=aB kv;have v0:=aA hV 0;have v1:=aA hV 1;have v2:=aA hV 2;have vl:=aB hV;have a6:lx op G[k].1.1 v=t:=(by rw[r1];exact ht);have d5:∀z,Below W1.heap.size W1 z->An F (rz op v (G.take k)) T z/\fi T z/\Rd z q1 G[k].2:=(fun z hz=>⟨hG.loc (fun b f=>hz.block b (o b f)),fun b f=>z9 (o b f) hz.size,Ro.rd (ac.later hr hz)⟩);have HQ:=aa (ab hG (ab o (ab hT (ab a6 d5))));rw[es];clear hG o hT hr r1 r2 keep b8 kv hV e9 b0 ht a6 d5 es;subst H;dsimp only;cases t with
  | false =>
   gi_wp2_with (gi_at_call 31;refine aI rfl ?_;(with_reducible refine(r _).mono ?_);rintro e w8⟨rfl,m⟩;have H8:=aa m;clear r m o0 ol e0 e1 e2 el v0 v1 v2 vl)
   obtain⟨hG,o,hT,a6,_⟩:=HQ.out;have hz:=H8.out.size;refine⟨fun b=>T b∨(W1.heap.size<=b/\b<w8.heap.size),fun b f=>f.imp (fun h=>h) (fun h=>h.1),fun b f=>?_,(Chg.of_below (S:=fun _=>False) H8.out).mono (fun _ _ h=>h.elim),?_,fun b f=>?_⟩
   ·rcases f with f|f
    ·have:=o b f;omega
    ·exact f.2
   ·rw[FD a4 a6];have j:=(HQ.2.2.2.2 w8 H8.out).1;obtain⟨p3,c3,a1,a2,a3⟩:=j.row;exact⟨⟨p3,c3,a1,a2,fun q hq=>.inl (a3 q hq)⟩,.inl j.sF⟩
   ·rcases f with f|f
    ·exact hT b f
    ·have:=o F hG.sF;omega
  | true =>
   have b2:∀z,Below W1.heap.size W1 z->_:=fun z hz=>An.add (d:=c1) HQ.2.2.1 (HQ.2.2.2.2 z hz).1 (HQ.2.2.2.2 z hz).2.1 (HQ.2.2.2.2 z hz).2.2 (by
    have j:=FF (op:=op) (v:=v) (G:=G) (k+1);rw[yU a4 HQ.2.2.2.1,y6]at j
    have:=HL.2.2.2.2
    omega)
   gi_wp2_with (first|(gi_at_call 31;refine aI rfl ?_;(with_reducible refine(r _).mono ?_);rintro e w8⟨rfl,m⟩;obtain⟨p3,c3,p',c',w',g1,d6,a7,S2,s1,s2,s3,s4,s5⟩:=b2 w8 m;have f0:=aA g1 0;have fl:=aB g1;have h0:=aA a7 0;have hf:=(fun i=>zq w' F i _ _ a7);have hl:=aB a7;have H8:=aa (ab m (ab s1 (ab s2 (ab s3 (ab s4 s5)))));clear r m o0 ol e0 e1 e2 el v0 v1 v2 vl b2 s1 s2 s3 s4 s5 g1 a7)|(gi_at_builtin;refine bS rfl (.tmp 24) (.tmp 25) 40 rfl rfl rfl d6 ?_))
   obtain⟨m,s1,s2,s3,s4,s5⟩:=H8.out;exact⟨S2,fun b f=>(s1 b f).imp (fun h=>h) (fun h=>zx m.size h),s2,(Chg.of_below (S:=T) m).trans s3 (fun _ _ h=>h) (fun _ _ h=>h),by rw[yU a4 HQ.2.2.2.1];exact s4,s5⟩
 rintro S' W' hg hi E⟨hG,hS⟩ _ hK f2;subst H;have f1:u.az.length=G.length:=(by rw[U.1];exact HL.2.1);rw[f1,List.take_length]at hG;obtain⟨p2,c2,g1,g2,g3⟩:=hG.row;have z1:=s.2.2.2.2.2.2.2;have b7:=U.2.2.2.size;have f3:=U.2.2.1;have kr:=(E.block (B+2) (by omega) (fun e=>e.elim (fun e=>by have e:B+2=F:=e;omega) id)).trans (aE U.2.2.2 s.2.2.2.2.2.1);have d7:=vof (c:=c2) rfl HL.2.2.2.2 (Ro.rd g2)
 have I:Below w.heap.size w W':=by
  refine(s.2.2.1.trans (U.2.2.2.mono s.2.2.1.size)).trans ⟨E.os,E.tape,E.output,E.size,fun b f=>E.block b (by have:=s.2.1;omega) (fun e=>e.elim (fun e=>by have e:b=F:=e;have:=s.2.1;omega) id)⟩
 have f0:=aA g1 0;have fl:=aB g1;have HZ:=aa (ab hK (ab I kr));clear g1 g2 g3 hG hS E hg hi I hK kr
 gi_wp2_with fail
 refine(wpIn_wide (n:=0)).1 ?_
 gi_wp2_with (gi_at_call 27;refine aI rfl ?_;(with_reducible refine d7.mono ?_);rintro e X⟨Y,Z,c4,rfl,d8,b9⟩;have H2:=aa (ab d8 b9);have kf:=aE b9 HZ.2.2;have r0:=aA kf 0;have rf:=(fun i=>zq X (B+2) i _ _ kf);have rl:=aB kf;clear d7 d8 b9 kf f0 fl)
 obtain⟨hK,I,kr⟩:=HZ.out;have kf:=aE H2.2 kr;have k3:(X.setCell ⟨B+2,0,none⟩ (.slice Y Z c4)).heap[B+2]?=some (.cells #[.slice Y Z c4] 29):=y7 X (B+2) 0 _ _ (.slice Y Z c4) kf;have g3:X.grownBy (X.setCell ⟨B+2,0,none⟩ (.slice Y Z c4)) (some (B+2)):=dI X (B+2) 0 (.slice Y Z c4);have hB:=s.2.1;have c0:Below w.heap.size w (X.setCell ⟨B+2,0,none⟩ (.slice Y Z c4)):=cN (aC I H2.2) (zo _) g3 (by omega)
 have hv:=Vm.off H2.1 g3 (fun k d4 e j=>by
  cases e;rw[kf]at j;cases j)
 have a5:w2.heap.size≠B+2:=(by omega);have c5:(X.setCell ⟨B+2,0,none⟩ (.slice Y Z c4)).heap[w2.heap.size]?=some (.deferred (some [])):=(y9 X ⟨B+2,0,none⟩ _ _ a5).trans ((H2.2.block _ (aB hK)).trans hK);generalize X.setCell ⟨B+2,0,none⟩ (.slice Y Z c4)=wz at k3 c0 hv c5 ⊢;refine dG (v:=.agg #[.slice Y Z c4]) c5 (fun w' J d2=>?_);have y0:=aA ((J.block (B+2) (aB k3) (fun e=>a5 e.symm)).trans k3) 0;refine⟨by simp[results,results11,go_sem,y0],Y,Z,c4,rfl,?_,c0.trans ⟨J.os,J.tape,J.output,xn d2.symm,fun b f=>J.block b (z9 f c0.size) (fun e=>?_)⟩⟩
 ·obtain⟨l,j,h2⟩:=hv
  exact⟨l,ac.of j (fun q hq=>J.block q (ac.lt j q hq).2 (fun e=>by
   obtain⟨_,d4,h3⟩:=ac.block j q hq;have e:q=w2.heap.size:=e;rw[e,c5]at h3;cases h3)),h2⟩
 have e:b=w2.heap.size:=e;omega
