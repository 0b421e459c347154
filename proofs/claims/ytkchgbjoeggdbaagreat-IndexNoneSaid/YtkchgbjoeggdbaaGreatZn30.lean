import Derived.Test.YtkchgbjoeggdbaaGreatZn28
import Derived.Test.YtkchgbjoeggdbaaGreatZn25
set_option maxHeartbeats 4000000
set_option maxRecDepth 100000
namespace Go.Proofs.YtkchgbjoeggdbaaGreat
open Go.Proofs.Tryz
open Go Go.RowKit Go.Proofs Co Co.S
def sf(W:World)(v:Value)(f:ByteArray->Option Nat)(n m:Nat):Prop:=(v=.map none/\n=0/\∀x,f x=none)∨∃b,v=.map (some b)/\Mp W b f n m
def mblk:Value->Option Nat
 | .map b=>b
 | _=>none
section
variable{W W':World}{v mv:Value}{n m:Nat}{f:ByteArray->Option Nat}{d:Nat}{ts:List T}
theorem sf.of(h:sf W v f n m)(hk:∀b,mblk v=some b->W'.heap[b]?=W.heap[b]?):sf W' v f n m:=by
 rcases h with h|⟨b,rfl,h⟩
 ·exact .inl h
 exact .inr ⟨b,rfl,h.of (hk b rfl)⟩
theorem sf.lt(h:sf W v f n m):∀b,mblk v=some b->b<W.heap.size:=by
 intro b a;rcases h with ⟨rfl,_⟩ | ⟨c,rfl,h⟩
 ·cases a
 cases a;exact h.lt
theorem Sch.mapc(h:Sch mv W d ts):W.cell? ⟨d,33,none⟩=some mv/\d<W.heap.size/\∀j,W.frozen? ⟨d,j,none⟩=false:=by
 obtain⟨c,b,rest,a,e,f⟩:=h;refine⟨?_,aB a,fun j=>zq W d j _ _ a⟩;rw[aA a,List.getElem?_toArray,ya (by omega),ya (by omega),show 33-b.length-rest.length=1 by omega];rfl
theorem Sch.setmap(h:Sch mv W d ts)(v':Value):Sch v' (W.setCell ⟨d,33,none⟩ v') d ts:=by
 obtain⟨f,a,rest,b,g,i⟩:=h;have c:=y7 W d 33 _ _ v' b
 have e:((a++(rest++[.int .i64 (ts.length:Int),mv])).toArray.setIfInBounds 33 v')=(a++(rest++[.int .i64 (ts.length:Int),v'])).toArray:=by
  have j:a++(rest++[.int .i64 (ts.length:Int),mv])=(a++rest++[.int .i64 (ts.length:Int)])++[mv]:=(by simp);rw[List.setIfInBounds_toArray,j,show 33=33+0 from rfl,fW _ 33 0 _ _ (by simp;omega)]
  simp
 rw[e]at c;exact⟨f,a,rest,c,g,i.kp (CE b rfl (fun q k=>y9 W ⟨d,33,none⟩ q v' k))⟩
theorem fX(h:Sch mv W d ts)(hm:sf W mv f n m){x:ByteArray}(hx:x.size<=maxLen):Calls prog 36 #[.pointer (some ⟨d,0,none⟩),.string x] W fun e a=>e=.returned (rk (f x))/\a=W:=by
 obtain⟨c,l,_⟩:=h.mapc
 have j:(Instr.lookup 64 mv (.string x) false).run prog W=.ok (rk (f x)) W:=by
  rcases hm with ⟨rfl,_,g⟩ | ⟨b,rfl,i⟩
  ·rw[g x];exact vL hx W
  exact i.look hx
 clear h hm hx;go_enter func36,ntmps36;go_wp2_with fail;go_ret;exact⟨rfl,rfl⟩
theorem aY(_h:d<W.heap.size):Calls prog 37 #[.pointer (some ⟨d,0,none⟩)] W fun e a=>e=.returned (.pointer (some ⟨d,0,none⟩))/\a=W:=by
 go_enter func37,ntmps37;go_wp2_with fail;go_ret;exact⟨rfl,rfl⟩
theorem Sch.Az(h:Sch mv W d ts){b:Nat}(hne:b≠d)(hg:W.grownBy W' (some b))(hb:∃c f,W.heap[b]?=some (.map c f)):Sch mv W' d ts:=by
 obtain⟨j,k,rest,g,l,n⟩:=h;refine⟨j,k,rest,(hg.block d (aB g) (fun e=>hne (by cases e;rfl))).trans g,l,n.kp (fun q o e m a _ _=>?_)⟩;refine(hg.block q (aB a) (fun e=>?_)).trans a;obtain⟨c,f,i⟩:=hb;cases e;rw[a]at i;cases i
theorem EU(w:World):(binOp .eql 64 (.map none) (.map none)).run prog w=.ok (.bool true) w:=by kernel_rfl
theorem Fh(b:Nat)(w:World):(binOp .eql 64 (.map (some b)) (.map none)).run prog w=.ok (.bool false) w:=by kernel_rfl
def Bg(W:World)(d:Nat)(mv:Value)(ts:List T)(f:ByteArray->Option Nat)(n m:Nat)(x:ByteArray)(tb:Nat)(w:World):Prop:=
 ∃b,Sch (.map (some b)) w d ts/\Mp w b (uq f x tb) (n+1) (m+1)/\(mblk mv=some b∨W.heap.size<=b)/\Chg (fun q=>q=d∨mblk mv=some q) W w
theorem sZ(h:Sch mv W d ts)(hm:sf W mv f n m){x:ByteArray}(hx:x.size<=maxLen)(hf:f x=none)(hm6:m<=1000000)(tb:Nat):Calls prog 40 #[.pointer (some ⟨d,0,none⟩),.string x,.pointer (some ⟨tb,0,none⟩)] W fun e L=>e=.returned (.tuple #[])/\Bg W d mv ts f n m x tb L:=by
 obtain⟨c,l,fz⟩:=h.mapc;have fz:=fz 33;rcases hm with ⟨rfl,rfl,v⟩ | ⟨b,rfl,H⟩
 ·have I:(Instr.makeMap 64 none).run prog W=.ok (.map (some W.heap.size)) (W.alloc (.map #[] 0)):=(by kernel_rfl);have k:=aD W (.map #[] 0);have r:=(h.later k).setmap (.map (some W.heap.size));have s:=(Chg.of_below (S:=fun q=>q=d∨mblk (Value.map none)=some q) k).setCell (p:=⟨d,33,none⟩) (fun _=>.inl rfl) (.map (some W.heap.size));have t:W.heap.size≠d:=(by omega);have g:=(Mp.made W).of (y9 (W.alloc (.map #[] 0)) ⟨d,33,none⟩ W.heap.size (.map (some W.heap.size)) t);have w:(fun _:ByteArray=>(none:Option Nat))=f:=(by funext y;rw[v y]);rw[w]at g;have c1:=r.mapc;have c0:=(h.later k).mapc;obtain⟨M,o⟩:=ae ((W.alloc (.map #[] 0)).setCell ⟨d,33,none⟩ (.map (some W.heap.size)));obtain⟨B,N⟩:=ae W.heap.size;rw[o]at r s g c1;rw[N]at r g c1 I o t;obtain⟨z,j,A,i⟩:=g.put (p:=tb) hx hf (zj _);obtain⟨c2,l2,_⟩:=c1;obtain⟨c3,l3,E⟩:=c0;have E:=E 33;have O:B<=M.heap.size:=(by have:=g.lt;omega);have a:Chg (fun q=>q=d∨mblk (Value.map none)=some q) W z:=s.trans (S1:=fun q=>q=B) ⟨i.os,i.tape,i.output,i.size,fun q F J=>i.block q F (fun e=>J (by cases e;rfl))⟩ (fun _ _ h=>h) (fun q F(h:q=B)=>absurd F (by omega));have G:Sch (.map (some B)) z d ts:=r.Az (b:=B) t i g.isMap;have u:=aa (ab G (ab A a));have P:=aa o;clear h r s g A a G i o v w k;have Q:=EU W;go_enter func40,ntmps40;go_upto_region 2 with fail;rw[P.out];go_wp2_with (at_mapUpdate;refine eK rfl (.tmp 18) (.tmp 19) (.tmp 20) 64 rfl rfl rfl rfl j ?_)
  go_end0
  exact⟨rfl,B,u.1,u.2.1.mono (by omega),.inr (by omega),u.2.2⟩
 obtain⟨z,j,A,i⟩:=H.put (p:=tb) hx hf hm6
 have G:Sch (.map (some b)) z d ts:=h.Az (b:=b) (fun e=>by
  obtain⟨U,V,r⟩:=H.isMap;obtain⟨_,X,rest,R,_⟩:=h;rw[e,R]at r;cases r) i H.isMap
 have a:Chg (fun q=>q=d∨mblk (Value.map (some b))=some q) W z:=⟨i.os,i.tape,i.output,i.size,fun q F J=>i.block q F (fun e=>J (.inr e.symm))⟩;have u:=aa (ab G (ab A a));clear h H A i G a;have Q:=Fh b W;go_enter func40,ntmps40;go_wp2_with (at_mapUpdate;refine eK rfl (.tmp 18) (.tmp 19) (.tmp 20) 64 rfl rfl rfl rfl j ?_)
 go_end0
 exact⟨rfl,b,u.1,u.2.1,.inl rfl,u.2.2⟩
end
section
variable{W W':World}{mv:Value}{n m:Nat}{f:ByteArray->Option Nat}{d:Nat}{ts:List T}
theorem sf.later(h:sf W mv f n m)(hb:Below W.heap.size W W'):sf W' mv f n m:=h.of (fun b a=>hb.block b (h.lt b a))
theorem qK(h:Sch mv W d ts)(hm:sf W mv f n m){x:ByteArray}(hx:x.size<=maxLen){tb:Nat}(hf:f x=some tb):Calls prog 14 #[.pointer (some ⟨d,0,none⟩),.string x] W fun e b=>e=.returned (.pointer (some ⟨tb,0,none⟩))/\b=W:=by
 have a:Calls prog 36 #[.pointer (some ⟨d,0,none⟩),.string x] W fun e b=>e=.returned (.pointer (some ⟨tb,0,none⟩))/\b=W:=by
  have:=fX h hm hx
  rw[hf]at this;exact this
 clear h hm hf;go_enter func14,ntmps14;go_wp2_with (go_at_call 36;refine a.mono ?_;rintro e c⟨rfl,g⟩;subst c;clear a);go_ret;exact⟨rfl,rfl⟩
theorem tA(h:Sch mv W d ts)(hm:sf W mv f n m){x:ByteArray}(hx:x.size<=maxLen)(hf:f x=none)(hno:fe ts x=false)(hfew:bs ts):Calls prog 14 #[.pointer (some ⟨d,0,none⟩),.string x] W fun e c=>e=.returned (.pointer none)/\Below W.heap.size W c:=by
 have a:Calls prog 36 #[.pointer (some ⟨d,0,none⟩),.string x] W fun e c=>e=.returned (.pointer none)/\c=W:=by
  have:=fX h hm hx
  rw[hf]at this;exact this
 have i:=aY (d:=d) h.mapc.2.1;have b:=dZ (x:=x) h.p hfew;rw[hno]at b;clear h hm hf hno hfew;go_enter func14,ntmps14
 go_wp2_with (first|(go_at_call 36;refine a.mono ?_;rintro e g⟨rfl,k⟩;subst g;clear a)|(go_at_call 37;refine i.mono ?_;rintro e g⟨rfl,k⟩;subst g;clear i)|(go_at_call 38;refine b.mono ?_;rintro e l⟨o,q,c1,r,s,c2,rfl,_,j⟩;have t:=aa (aC j (aD l (.cells #[.string (nu (bg ts x)).nm,.slice o q c1,.string (nu (bg ts x)).key,.slice r s c2] 60)));clear b j))
 go_ret;exact⟨rfl,t.out⟩
def Bi(W:World)(d:Nat)(mv:Value)(ts:List T)(f:ByteArray->Option Nat)(n m:Nat)(x:ByteArray)(e:Ending)(w:World):Prop:=
 ∃tb b lab,e=.returned (.pointer (some ⟨tb,0,none⟩))/\Sch (.map (some b)) w d ts/\Mp w b (uq f x tb) (n+1) (m+1)/\Tb w tb (nu (bg ts x)) 0 [] lab/\(∀q,lab q≠0->W.heap.size<=q/\q≠b)/\(mblk mv=some b∨W.heap.size<=b)/\Tn (fun q=>q=d∨mblk mv=some q) W w
theorem vV(h:Sch mv W d ts)(hm:sf W mv f n m){x:ByteArray}(hx:x.size<=maxLen)(hf:f x=none)(hyes:fe ts x=true)(hfew:bs ts)(hkd:∀c∈(nu (bg ts x)).cols,c.kd=1∨c.kd=2)(hm6:m<=1000000):Calls prog 14 #[.pointer (some ⟨d,0,none⟩),.string x] W (Bi W d mv ts f n m x):=by
 have l:Calls prog 36 #[.pointer (some ⟨d,0,none⟩),.string x] W fun e w'=>e=.returned (.pointer none)/\w'=W:=by
  have:=fX h hm hx
  rw[hf]at this;exact this
 have U:=aY (d:=d) h.mapc.2.1;have j:=dZ (x:=x) h.p hfew;have w:=sV hfew x;unfold Bi;rw[hyes]at j;obtain⟨t,X⟩:=ae (nu (bg ts x));rw[X]at j w hkd ⊢;obtain⟨nm,y⟩:=ae t.nm;obtain⟨key,o⟩:=ae t.key;have H:=aa (ab h (ab hm (ab w (ab hkd (ab y o)))));have Y:=aa (ab hf hm6);clear h hm hf hyes hfew X w hkd hm6;unfold ma at j;rw[y,o]at j;clear y o;go_enter func14,ntmps14
 go_upto_region 5 with (first|(go_at_call 36;(with_reducible refine l.mono ?_);rintro e O⟨rfl,hw⟩;subst O;clear l)|(go_at_call 37;(with_reducible refine U.mono ?_);rintro e O⟨rfl,hw⟩;subst O;clear U)|(go_at_call 38;(with_reducible refine j.mono ?_);rintro e I⟨J,L,c1,M,N,c2,rfl,Z,hb⟩;have H3:=aa (ab Z hb);clear j Z hb))
 have s:=aD I (.cells #[.string nm,.slice J L c1,.string key,.slice M N c2] 60);have u:=z7 I (.cells #[.string nm,.slice J L c1,.string key,.slice M N c2] 60);obtain⟨w4,z⟩:=ae (I.alloc (.cells #[.string nm,.slice J L c1,.string key,.slice M N c2] 60));obtain⟨V,A⟩:=ae I.heap.size;rw[z]at s u ⊢;rw[A]at u ⊢;have B:dw w4 (.slice J L c1) (.slice M N c2) t:=H3.1.kp (Tn.of_below (S:=fun _=>False) s).qu;have E:Below W.heap.size W w4:=aC H3.2 s;have v0:=aA u 0;have v1:=aA u 1;have v2:=aA u 2;have v3:=aA u 3;have vl:=aB u;have r:=mM B H.2.2.1 H.2.2.2.1;rw[H.2.2.2.2.1,H.2.2.2.2.2]at r;have H4:=aa E;clear s u z A B E
 go_wp2_with (first|(go_at_call 39;refine r.mono ?_;rintro e w5⟨tb,P,rfl,hT,k,a⟩;have g:=aC H4.out a;have v:=sZ (tb:=tb) (H.1.later g) (H.2.1.later g) hx Y.1 Y.2;have H5:=aa (ab hT (ab (fun q i=>zx H4.out.size (k q i)) g));clear r hT k a g)|(go_at_call 40;refine v.mono ?_;rintro e w6⟨rfl,hP⟩;have H6:=aa hP;clear v hP))
 go_ret;obtain⟨hT,k,a⟩:=H5.out;obtain⟨b,q1,q2,q3,q4⟩:=H6.out;have a0:=H.1.mapc.2.1;have F:=H.2.1.lt;have Q:=H.1.later a
 have G:Tn (fun q=>q=d∨mblk mv=some q) w5 w6:=Tn.bt q4 (fun q _ i=>by
  rcases i with rfl|i
  ·obtain⟨_,xs,rest,k1,_⟩:=Q;exact .inl ⟨_,66,k1,rfl⟩
  rcases H.2.1.later a with ⟨rfl,_⟩ | ⟨b',rfl,R⟩
  ·cases i
  cases i;exact .inr R.isMap)
 have hz:=a.size;refine⟨tb,b,P,rfl,q1,q2,hT.tn G (fun q i=>Classical.byContradiction fun hn=>?_),fun q i=>⟨k q i,fun e=>?_⟩,q3.imp (fun h=>h) (fun h=>by omega),(Tn.of_below (S:=fun q=>q=d∨mblk mv=some q) a).trans G (fun _ _ h=>h) (fun _ _ h=>h)⟩
 ·have:=k q hn
  rcases i with rfl|i
  ·omega
  have:=F q i;omega
 subst e;have h1:=k q i;have h2:=hT.lt q i;rcases q3 with h3|h3
 ·have:=F q h3;omega
 omega
end
abbrev DT:Type:=Nat×Nat×List R1
structure Dd (W:World) (d:Nat) (ts:List T) (st:List DT) (O:Nat->Nat):Prop where
 own:∃mv f n,Sch mv W d ts/\sf W mv f n ts.length/\(∀j (h:j<ts.length) (h':j<st.length),f ts[j].nm=some st[j].1)/\(∀x,fe ts x=false->f x=none)/\∀b,mblk mv=some b->O b=1
 len:st.length=ts.length
 nd:∀j k (hj:j<ts.length) (hk:k<ts.length),ts[j].nm=ts[k].nm->j=k
 od:O d=1
 tab:∀j (h:j<ts.length) (h':j<st.length),∃lab,Tb W st[j].1 ts[j] st[j].2.1 st[j].2.2 lab/\∀q,lab q≠0->O q=j+2
 lt:∀q,O q≠0->q<W.heap.size
section
variable{W W':World}{d:Nat}{ts:List T}{st:List DT}{O O':Nat->Nat}{S:Nat->Prop}
theorem Sch.tn{mv:Value}(h:Sch mv W d ts)(hk:Tn S W W')(hd:¬ S d):Sch mv W' d ts:=by
 obtain⟨b,c,rest,a,e,f⟩:=h;exact⟨b,c,rest,(hk.chg.block d (aB a) hd).trans a,e,f.kp hk.qu⟩
theorem Dd.tn(h:Dd W d ts st O)(hk:Tn S W W')(hs:∀q,S q->O q=0):Dd W' d ts st O:=by
 obtain⟨mv,f,n,o,i,p,r,k⟩:=h.own;refine⟨⟨mv,f,n,o.tn hk (fun c=>by have:=hs d c;rw[h.od]at this;cases this),i.of (fun b l=>hk.chg.block b (i.lt b l) (fun c=>by have:=hs b c;rw[k b l]at this;cases this)),p,r,k⟩,h.len,h.nd,h.od,fun j a b=>?_,fun q e=>z9 (h.lt q e) hk.size⟩;obtain⟨g,s,m⟩:=h.tab j a b;exact⟨g,s.tn hk (fun q e=>Classical.byContradiction fun t=>by have:=m q t;rw[hs q e]at this;omega),m⟩
theorem Dd.later(h:Dd W d ts st O)(hb:Below W.heap.size W W'):Dd W' d ts st O:=h.tn (S:=fun _=>False) (Tn.of_below hb) (fun _ h=>h.elim)
theorem Ge{ts:List T}{x:ByteArray}{t:T}(h:bg ts x=some t):∃j,∃a:j<ts.length,ts[j]=t/\t.nm=x:=by
 unfold bg at h;obtain⟨b,j,a,c,_⟩:=List.find?_eq_some_iff_getElem.1 h;refine⟨j,a,c,?_⟩;unfold qb ip at b;exact cY (by simpa using b)
theorem Dd.table(h:Dd W d ts st O){j:Nat}(hj:j<ts.length)(hx:ts[j].nm.size<=maxLen)(hj':j<st.length):Calls prog 14 #[.pointer (some ⟨d,0,none⟩),.string ts[j].nm] W fun e a=>e=.returned (.pointer (some ⟨st[j].1,0,none⟩))/\a=W:=by
 obtain⟨mv,f,n,b,c,g,i,k⟩:=h.own;exact qK b c hx (g j hj hj')
theorem Dd.notable(h:Dd W d ts st O)(hfew:bs ts){x:ByteArray}(hx:x.size<=maxLen)(hno:fe ts x=false):Calls prog 14 #[.pointer (some ⟨d,0,none⟩),.string x] W fun e a=>e=.returned (.pointer none)/\Below W.heap.size W a:=by
 obtain⟨mv,f,n,b,c,i,g,j⟩:=h.own;exact tA b c hx (g x hno) hno hfew
theorem Dd.turn(h:Dd W d ts st O){j:Nat}(hj:j<ts.length)(hj':j<st.length){f:FuncId}{args:Array Value}{R:Ending->Prop}{n':Nat}{A':List R1}(k:∀g,Tb W st[j].1 ts[j] st[j].2.1 st[j].2.2 g->(∀q,g q≠0->O q=j+2)->Calls prog f args W fun e p=>R e/\∃a,Tb p st[j].1 ts[j] n' A' a/\Ext W g a/\Tn (fun q=>g q≠0) W p):Calls prog f args W fun e p=>R e/\∃O',Dd p d ts (st.set j (st[j].1,n',A')) O'/\Ext W O O'/\Tn (fun q=>O q=j+2) W p:=by
 obtain⟨g,E,u⟩:=h.tab j hj hj';refine(k g E u).mono ?_;rintro e p⟨F,a,x,G,H⟩;have i:Tn (fun q=>O q=j+2) W p:=H.mono (fun q _ c=>u q c);have t:∀q,q<W.heap.size->(if q<W.heap.size then O q else if a q≠0 then j+2 else 0)=O q:=(fun q c=>zw c);refine⟨F,fun q=>if q<W.heap.size then O q else if a q≠0 then j+2 else 0,⟨?_,by rw[vp];exact h.len,h.nd,?_,fun m r v=>?_,fun q c=>?_⟩,t,i⟩
 ·obtain⟨mv,f,n,c1,c2,c3,c4,y⟩:=h.own;refine⟨mv,f,n,c1.tn i (fun w=>by have:O d=j+2:=w;rw[h.od]at this;omega),c2.of (fun b s=>i.chg.block b (c2.lt b s) (fun w=>by have:O b=j+2:=w;rw[y b s]at this;omega)),fun m r v=>?_,c4,fun b s=>(t b (c2.lt b s)).trans (y b s)⟩;have o:m<st.length:=(by rw[h.len];exact r);by_cases e:j=m
  ·subst e;rw[List.getElem_set_self];exact c3 j r o
  rw[List.getElem_set_ne e];exact c3 m r o
 ·have I:=h.lt d (by rw[h.od];decide);exact(t d I).trans h.od
 ·have o:m<st.length:=(by rw[h.len];exact r);by_cases e:j=m
  ·subst e;rw[List.getElem_set_self];refine⟨a,x,fun q c=>?_⟩;show(if q<W.heap.size then O q else if a q≠0 then j+2 else 0)=j+2;by_cases l:q<W.heap.size
   ·rw[zw l];rw[G q l]at c;exact u q c
   rw[zu l,zw c]
  rw[List.getElem_set_ne e];obtain⟨J,z,A⟩:=h.tab m r o;refine⟨J,z.tn i (fun q c=>Classical.byContradiction fun L=>by have M:=A q L;have N:O q=j+2:=c;omega),fun q c=>(t q (z.lt q c)).trans (A q c)⟩
 have c:(if q<W.heap.size then O q else if a q≠0 then j+2 else 0)≠0:=c;by_cases l:q<W.heap.size
 ·have:=i.size;omega
 rw[zu l]at c;by_cases B:a q≠0
 ·exact x.lt q B
 rw[zu B]at c;exact absurd rfl c
end
