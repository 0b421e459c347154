import Derived.Test.YthlccadnojnkaaaGreatZn38
set_option maxHeartbeats 4000000
set_option maxRecDepth 100000
namespace Go.Proofs.YthlccadnojnkaaaGreat
open Go.Proofs.Tryz
open Go Go.RowKit Go.Proofs Co Co.S
def ki:List Value:=(List.replicate 8 [.string e0,.slice none 0 0,.string e0,.slice none 0 0]).flatten
def rm(d:Nat)(q:Nat):Nat:=if q=d then 1 else 0
theorem Dd.new(W:World):Dd (W.alloc (.cells (ki++[.int .i64 0,Value.map none]).toArray 122)) W.heap.size [] [] (rm W.heap.size):=by
 have a:=z7 W (.cells (ki++[.int .i64 0,Value.map none]).toArray 122);refine⟨⟨.map none,fun _=>none,0,⟨by decide,[],ki,?_,rfl,?_⟩,.inl ⟨rfl,rfl,fun _=>rfl⟩,fun j h=>absurd h (yo _),fun _ _=>rfl,fun b a=>(by cases a)⟩,rfl,fun j _ h=>absurd h (yo _),by unfold rm;rw[zv rfl],fun j h=>absurd h (yo _),fun q c=>?_⟩
 ·rw[a];rfl
 ·exact⟨rfl,fun j d=>absurd d (yo _)⟩
 unfold rm at c;by_cases e:q=W.heap.size
 ·rw[e,zj];omega
 rw[zq e]at c;exact absurd rfl c
theorem ew.new(W:World):ew (W.alloc (.cells #[.slice none 0 0,.slice none 0 0,.slice none 0 0] 71)) W.heap.size [] [] ⟨.slice none 0 0,.slice none 0 0,.slice none 0 0,[]⟩ (rm W.heap.size):=by
 have b:=z7 W (.cells #[.slice none 0 0,.slice none 0 0,.slice none 0 0] 71);refine⟨b,rfl,rfl,ac.nil,fun j h=>absurd h (yo _),ac.nil,ac.nil,fun j h=>absurd h (yo _),by unfold rm;rw[zv rfl],fun _ h=>(by cases h),fun _ h=>(by cases h),fun _ h=>(by cases h),fun q a=>?_⟩;unfold rm at a;by_cases e:q=W.heap.size
 ·rw[e,zj];omega
 rw[zq e]at a;exact absurd rfl a
theorem If(W:World):Calls prog 32 #[] W fun e w'=>e=.returned (.pointer (some ⟨W.heap.size,0,none⟩))/\w'=W.alloc (.cells (ki++[.int .i64 0,Value.map none]).toArray 122):=by
 go_enter func32,ntmps32;go_wp2_with fail;go_ret;exact⟨rfl,rfl⟩
def PS(K:Nat->Prop)(W0 w:World)(d:Nat)(ts:List T)(st:List DT)(b:Nat)(us:List T)(tt:List RT):Prop:=
 ∃Od Ob i,Dd w d ts st Od/\ew w b us tt i Ob/\(∀q,Od q≠0->Ob q=0)/\(∀q,K q->q<W0.heap.size/\Od q=0/\Ob q=0)/\Tn (fun q=>¬ K q) W0 w
section
variable {K:Nat->Prop}{W0 w w':World}{d b:Nat}{ts us:List T}{st:List DT}{tt:List RT}{t:T}{cv dv:Value}
theorem PS.later(h:PS K W0 w d ts st b us tt)(hb:Below w.heap.size w w'):PS K W0 w' d ts st b us tt:=by
 obtain⟨a,c,i,e,f,g,j,k⟩:=h;exact⟨a,c,i,e.later hb,f.later hb,g,j,k.trans (Tn.of_below (S:=fun _=>False) hb) (fun _ _ h=>h) (fun _ _ h=>h.elim)⟩
theorem PS.BI(h:PS K W0 w d ts st b us tt){f:FuncId}{args:Array Value}{R:Ending->Prop}{ts':List T}{Q:List DT->Prop}(hc:∀c,Dd w d ts st c->Calls prog f args w fun e w'=>R e/\∃st' g,Q st'/\Dd w' d ts' st' g/\Ext w c g/\Tn (fun q=>c q≠0) w w'):Calls prog f args w fun e w'=>R e/\∃st',Q st'/\PS K W0 w' d ts' st' b us tt:=by
 obtain⟨c,k,i,t,l,m,n,o⟩:=h;refine(hc c t).mono ?_;rintro e w'⟨u,st',g,v,x,p,hT⟩;have j:∀q,k q≠0->q<w.heap.size:=l.lt;refine⟨u,st',v,g,k,i,x,l.tn hT (fun q a=>m q a),fun q a=>?_,fun q a=>?_,o.trans hT (fun _ _ h=>h) (fun q _ a y=>a (n q y).2.1)⟩
 ·refine Classical.byContradiction fun r=>?_
  have z:=j q r;rw[p q z]at a;exact r (m q a)
 obtain⟨s,A,B⟩:=n q a;exact⟨s,(p q (z9 s o.size)).trans A,B⟩
theorem PS.BG(h:PS K W0 w d ts st b us tt){f:FuncId}{args:Array Value}{R:Ending->Prop}{us':List T}{tt':List RT}(hc:∀i c,ew w b us tt i c->Calls prog f args w fun e w'=>R e/\∃j g,ew w' b us' tt' j g/\Ext w c g/\Tn (fun q=>c q≠0) w w'):Calls prog f args w fun e w'=>R e/\PS K W0 w' d ts st b us' tt':=by
 obtain⟨r,c,i,k,s,l,m,n⟩:=h;refine(hc i c s).mono ?_;rintro e w'⟨t,j,g,u,o,hT⟩;refine⟨t,r,g,j,k.tn hT (fun q a=>Classical.byContradiction fun v=>a (l q v)),u,fun q a=>?_,fun q a=>?_,n.trans hT (fun _ _ h=>h) (fun q _ a x=>a (m q x).2.2)⟩
 ·rw[o q (k.lt q a)];exact l q a
 obtain⟨p,y,z⟩:=m q a;exact⟨p,y,(o q (z9 p n.size)).trans z⟩
theorem PS.Ci(h:PS K W0 w d ts st b us tt)(hT:ey w cv dv t)(hsm:xb t)(hyes:ea ts t=0)(hfew:di ts):Calls prog 34 #[.pointer (some ⟨d,0,none⟩),.agg #[.string t.nm,cv,.string t.key,dv]] w fun e w'=>e=.returned (.int .i64 0)/\∃st',(∃tb,st'=st++[(tb,0,[])])/\PS K W0 w' d (ts++[bh t]) st' b us tt:=
 h.BI (R:=fun e=>e=.returned (.int .i64 0)) (Q:=fun st'=>∃tb,st'=st++[(tb,0,[])]) (fun a f=>(Ga f hT hsm hyes hfew).mono (by
  rintro e w'⟨rfl,tb,g,i,j,k⟩;exact⟨rfl,_,g,⟨tb,rfl⟩,i,j,k.mono (fun q _ c=>by have c:a q=1:=c;show a q≠0;omega)⟩))
theorem PS.addN(h:PS K W0 w d ts st b us tt)(hi:mh us)(hT:ey w cv dv t)(hsm:xb t)(hyes:ea us t=0)(h0:0<t.cols.length)(hc:t.cols.length<=1000):Calls prog 35 #[.pointer (some ⟨b,0,none⟩),.agg #[.string t.nm,cv,.string t.key,dv]] w fun e w'=>e=.returned (.int .i64 0)/\PS K W0 w' d ts st b (us++[bh t]) (tt++[Al]):=
 h.BG (R:=fun e=>e=.returned (.int .i64 0)) (fun i m a=>(Gr a hi hT hsm hyes h0 hc (by have:=hi.len;omega)).mono (by
  rintro e w'⟨rfl,c,f,g,j,k⟩;exact⟨rfl,c,f,g,j,k.mono (fun q _ l=>l.1)⟩))
theorem PS.still(h:PS K W0 w d ts st b us tt){q:Nat}(hq:K q):w.heap[q]?=W0.heap[q]?:=by
 obtain⟨_,_,_,_,_,_,a,c⟩:=h;exact c.chg.block q (a q hq).1 (fun e=>e hq)
theorem PS.qu(h:PS K W0 w d ts st b us tt):Kp W0 w:=by
 obtain⟨_,_,_,_,_,_,_,a⟩:=h;exact a.qu
end
theorem PS.new(W w3:World)(hb:Below ((W.alloc (.cells (ki++[.int .i64 0,Value.map none]).toArray 122)).alloc (.cells #[.slice none 0 0,.slice none 0 0,.slice none 0 0] 71)).heap.size ((W.alloc (.cells (ki++[.int .i64 0,Value.map none]).toArray 122)).alloc (.cells #[.slice none 0 0,.slice none 0 0,.slice none 0 0] 71)) w3):PS (fun q=>q<w3.heap.size/\q≠W.heap.size/\q≠W.heap.size+1) w3 w3 W.heap.size [] [] (W.heap.size+1) [] []:=by
 have c:=((Dd.new W).later (aD _ (.cells #[.slice none 0 0,.slice none 0 0,.slice none 0 0] 71))).later hb;have b:=(ew.new (W.alloc (.cells (ki++[.int .i64 0,Value.map none]).toArray 122))).later hb;rw[zj]at b;refine⟨_,_,_,c,b,fun q a=>?_,fun q a=>⟨a.1,?_,?_⟩,Tn.refl _ _⟩
 ·unfold rm at a ⊢;by_cases e:q=W.heap.size
  ·rw[zq (by omega)]
  rw[zq e]at a;exact absurd rfl a
 ·unfold rm;rw[zq a.2.1]
 unfold rm;rw[zq a.2.2]
theorem KM(W:World):Calls prog 33 #[] W fun e w'=>e=.returned (sl (W.heap.size+8) 4)/\iu w' (sl (W.heap.size+8) 4) ei/\Below W.heap.size W w':=by
 have a:=aa (ab (sV W) (gY (se W.heap.size) W));go_enter func33,ntmps33;go_wp2_with fail;go_ret;exact⟨rfl,a.1,a.2⟩
def pre(j:Nat):List T:=(ei.take j).map bh
theorem uE(j:Nat)(h:j<ei.length):pre j++[bh ei[j]]=pre (j+1):=by
 unfold pre;rw[yp h,uc];rfl
theorem CJ:∀j (h:j<ei.length),ea (pre j) ei[j]=0
 | 0,_=>by kernel_rfl
 | 1,_=>by kernel_rfl
 | 2,_=>by kernel_rfl
 | 3,_=>by kernel_rfl
 | j+4,h=>absurd h (by simp[ei])
theorem Jw:∀j (h:j<ei.length),0<ei[j].cols.length/\ei[j].cols.length<=1000
 | 0,_=>⟨by show 0<2;decide,by show 2<=1000;decide⟩
 | 1,_=>⟨by show 0<4;decide,by show 4<=1000;decide⟩
 | 2,_=>⟨by show 0<3;decide,by show 3<=1000;decide⟩
 | 3,_=>⟨by show 0<4;decide,by show 4<=1000;decide⟩
 | j+4,h=>absurd h (by simp[ei])
theorem uF:∀j (h:j<ei.length),xb ei[j]:=fun j h=>by
 have b:∀x:ByteArray,x.size<=20->x.size<=maxLen:=fun x f=>by unfold maxLen;omega
 have a:∀t∈ei,xb t:=by
  intro t d;simp only[ei,wg,vz,or_false]at d;rcases d with rfl|rfl|rfl|rfl
  all_goals
   refine⟨b _ (by decide),fun c e=>b _ ?_⟩
   revert c e
   decide
 exact a _ (z8 h)
theorem nP(l:List T)(h0:l.length<=8)(h1:l.all (fun t=>t.cols.all fun c=>named c.nm)=true)(h2:l.all bi=true)(h3:∀i (hi:i<l.length),be l l[i].nm=some l[i]/\ky l l[i].nm=(i:Int)):mh l:=
 ⟨h0,fun t a c b=>List.all_eq_true.1 (List.all_eq_true.1 h1 t a) c b,fun t a=>List.all_eq_true.1 h2 t a,h3⟩
theorem cO:∀j,j<=4->mh (pre j)
 | 0,_=>nP _ (by show 0<=8;decide) (by kernel_rfl) (by kernel_rfl) (fun i a=>match i,a with
  | i+0,a=>absurd a (by show ¬ i+0<0;omega))
 | 1,_=>nP _ (by show 1<=8;decide) (by kernel_rfl) (by kernel_rfl) (fun i a=>match i,a with
  | 0,_=>⟨by kernel_rfl,by kernel_rfl⟩
  | i+1,a=>absurd a (by show ¬ i+1<1;omega))
 | 2,_=>nP _ (by show 2<=8;decide) (by kernel_rfl) (by kernel_rfl) (fun i a=>match i,a with
  | 0,_=>⟨by kernel_rfl,by kernel_rfl⟩
  | 1,_=>⟨by kernel_rfl,by kernel_rfl⟩
  | i+2,a=>absurd a (by show ¬ i+2<2;omega))
 | 3,_=>nP _ (by show 3<=8;decide) (by kernel_rfl) (by kernel_rfl) (fun i a=>match i,a with
  | 0,_=>⟨by kernel_rfl,by kernel_rfl⟩
  | 1,_=>⟨by kernel_rfl,by kernel_rfl⟩
  | 2,_=>⟨by kernel_rfl,by kernel_rfl⟩
  | i+3,a=>absurd a (by show ¬ i+3<3;omega))
 | 4,_=>nP _ (by show 4<=8;decide) (by kernel_rfl) (by kernel_rfl) (fun i a=>match i,a with
  | 0,_=>⟨by kernel_rfl,by kernel_rfl⟩
  | 1,_=>⟨by kernel_rfl,by kernel_rfl⟩
  | 2,_=>⟨by kernel_rfl,by kernel_rfl⟩
  | 3,_=>⟨by kernel_rfl,by kernel_rfl⟩
  | i+4,a=>absurd a (by show ¬ i+4<4;omega))
 | j+5,h=>absurd h (by omega)
theorem Hq:∀t∈ei,Few t:=by
 intro t a;simp only[ei,wg,vz,or_false]at a;rcases a with rfl|rfl|rfl|rfl
 all_goals exact⟨by decide,by decide,by decide⟩
theorem bQ(j:Nat):di (pre j):=fun t a=>by
 unfold pre at a;obtain⟨u,b,rfl⟩:=List.mem_map.1 a;exact tZ (Hq u (ue b))
theorem xW(W:World):Calls prog 13 #[] W fun e w'=>e=.returned (.tuple #[.pointer (some ⟨W.heap.size,0,none⟩),.pointer (some ⟨W.heap.size+1,0,none⟩)])/\∃(K:Nat->Prop) (a:World) (st:List DT),Below W.heap.size W a/\(∀q,q<W.heap.size->K q)/\PS K a w' W.heap.size (pre 4) st (W.heap.size+1) (pre 4) (List.replicate 4 Al)/\st.map (·.2)=List.replicate 4 (0,[]):=by
 have i:=If W;have E:=aD W (.cells (ki++[.int .i64 0,Value.map none]).toArray 122);have p:=aB E (aD (W.alloc (.cells (ki++[.int .i64 0,Value.map none]).toArray 122)) (.cells #[.slice none 0 0,.slice none 0 0,.slice none 0 0] 71));have k:=KM ((W.alloc (.cells (ki++[.int .i64 0,Value.map none]).toArray 122)).alloc (.cells #[.slice none 0 0,.slice none 0 0,.slice none 0 0] 71));have m:=PS.new W;obtain⟨Z,x⟩:=ag (W.alloc (.cells (ki++[.int .i64 0,Value.map none]).toArray 122));have r:Z.heap.size=W.heap.size+1:=(by rw[<-x,zj]);rw[x]at i p k m;obtain⟨Q,s⟩:=ag (Z.alloc (.cells #[.slice none 0 0,.slice none 0 0,.slice none 0 0] 71));have y:Q.heap.size=W.heap.size+2:=(by rw[<-s,zj,r]);rw[s]at p k m;obtain⟨d,z⟩:=ag W.heap.size;rw[y,z]at k;rw[z]at r m i;have R:=aa s;have S:=aa r;have B:=aa (ab p (ab y (ab z m)));rw[z];clear x s r y E p z m;go_enter func13,ntmps13;go_upto_region 2 with (go_at_call 32;(with_reducible refine i.mono ?_);rintro e wx⟨rfl,hw⟩;subst hw;clear i);rw[R.out,S.out];unfold sl at k;go_wp2_with (go_at_call 33;refine k.mono ?_;rintro e a⟨rfl,hR,n⟩;have n:Below Q.heap.size Q a:=(by rw[B.2.1,B.2.2.1];exact n);have F:=B.2.2.2 a n;have N:=aa (ab hR (ab n F));clear k hR n F);go_loopg [5] 5 (fun gh jv w=>∃(j:Nat) (st:List DT),jv=.int .i64 (j:Int)/\j<=4/\5<=j+gh/\PS (fun q=>q<a.heap.size/\q≠d/\q≠d+1) a w d (pre j) st (d+1) (pre j) (List.replicate j Al)/\st.map (·.2)=List.replicate j (0,[]))
 case atStart=>exact⟨0,[],rfl,by omega,by omega,N.2.2,rfl⟩
 obtain⟨j,st,rfl,hj,hg,G,O⟩:=hrel;by_cases H:j<4
 ·have a0:(j:Int)<4:=(by omega);have l:j<ei.length:=H;obtain⟨b0,a1,cv,dv,e,U,c0,c1,c2,c3,u⟩:=iu.tab N.1 l;cases e;have hK:∀{w:World} {st':List DT} {us v:List T} {tt':List RT},PS (fun q=>q<a.heap.size/\q≠d/\q≠d+1) a w d v st' (d+1) us tt'->w.heap[d+2+8]?=a.heap[d+2+8]?:=fun h=>h.still ⟨U,by omega,by omega⟩
  have c:∀(w:World) (st':List DT) (us v:List T) (tt':List RT),PS (fun q=>q<a.heap.size/\q≠d/\q≠d+1) a w d v st' (d+1) us tt'->w.cell? ⟨d+2+8,j*4,none⟩=some (.string ei[j].nm)/\w.cell? ⟨d+2+8,j*4+1,none⟩=some cv/\w.cell? ⟨d+2+8,j*4+2,none⟩=some (.string ei[j].key)/\w.cell? ⟨d+2+8,j*4+3,none⟩=some dv/\ey w cv dv ei[j]:=fun w st' us v tt' h=>by
   have P:=hK h;rw[xq]at c0 c1 c2 c3;exact⟨(za (w:=a) P).trans c0,(za (w:=a) P).trans c1,(za (w:=a) P).trans c2,(za (w:=a) P).trans c3,u.kp h.qu⟩
  have b:=(fun(h:ey wr cv dv ei[j])=>G.Ci h (uF j l) (CJ j l) (bQ j));rw[uE]at b;obtain⟨y0,y1,y2,y3,yr⟩:=c _ _ _ _ _ G;have b:=b yr;have f:=Jw j l;have g:=(fun(w:World) (st':List DT) (h:PS (fun q=>q<a.heap.size/\q≠d/\q≠d+1) a w d (pre (j+1)) st' (d+1) (pre j) (List.replicate j Al)) (hr:ey w cv dv ei[j])=>h.addN (cO j (by omega)) hr (uF j l) (CJ j l) f.1 f.2);rw[uE]at g;obtain⟨pc,kc,rfl,_,_⟩:=u.1.slice;obtain⟨pd,kd,rfl,_,_⟩:=u.2.slice;generalize ei[j]=t at *;obtain⟨nc,V⟩:=ag t.cols.length;obtain⟨nd,X⟩:=ag t.deps.length;rw[V,X]at *;have A:=aa c;have I:=aa g;have HS:=aa O;clear c g hK G O yr c0 c1 c2 c3 u f;go_upto_region 7 with (go_at_call 34;(with_reducible refine b.mono ?_);rintro e w4⟨rfl,st',⟨tb,rfl⟩,J⟩;have L:=aa J;clear b J);obtain⟨x0,x1,x2,x3,xr⟩:=A.out _ _ _ _ _ L.out;have o:=I.out _ _ L.out xr;clear y0 y1 y2 y3 xr;go_wp2_with (go_at_call 35;refine o.mono ?_;rintro e w5⟨rfl,M⟩;have Y:=aa M;clear o M);go_roundg (4-j)
  case measure=>omega
  refine⟨j+1,st++[(tb,0,[])],rfl,by omega,by omega,?_,?_⟩
  ·have:=Y.out
   rw[<-List.replicate_succ']at this;exact this
  rw[uc,HS.out,List.replicate_succ'];rfl
 obtain rfl:j=4:=(by omega);have HP:=aa (ab G O);clear G O H;go_wp2_with fail;go_ret2;have hw:=B.2.1;have z:=B.2.2.1;have hs:=N.2.1.size;exact⟨rfl,_,a,st,z▸aB B.1 N.2.1,fun q hq=>⟨by omega,by omega,by omega⟩,HP.1,HP.2⟩
abbrev PT:Type:=Nat×List R1
abbrev bo(y:RT):PT:=(y.nx,y.A)
def gj(t:T)(x:PT)(vals:List T3):PT:=if dj t vals=0 then(x.1+1,x.2++[((x.1:Int),vals)])else x
def jx(t:T)(x:PT)(vals:List T3):Int:=if dj t vals=0 then(x.1:Int)else 0
def kh(x:PT)(id:Int):PT:=(x.1,without x.2 id)
def js(t:T)(x:PT)(id:Int)(y:ByteArray)(v:T3):PT:=if jt t x.2 id y v=0 then(x.1,im x.2 id (gx t.cols y).toNat v)else x
def dw(m:Nat)(x:PT):Prop:=x.1<=m/\x.2.length<=x.1
theorem dw.ins{m:Nat}{x:PT}(h:dw m x)(t:T)(vals:List T3):dw (m+1) (gj t x vals):=by
 obtain⟨b,a⟩:=h;unfold gj;split
 ·refine⟨by show x.1+1<=m+1;omega,?_⟩;show(x.2++[((x.1:Int),vals)]).length<=x.1+1;rw[y8];have:[((x.1:Int),vals)].length=1:=rfl;omega
 exact⟨by omega,a⟩
theorem dw.del{m:Nat}{x:PT}(h:dw m x)(id:Int):dw m (kh x id):=
 ⟨h.1,zw (List.length_filter_le _ _) h.2⟩
theorem dw.set{m:Nat}{x:PT}(h:dw m x)(t:T)(id:Int)(y:ByteArray)(v:T3):dw m (js t x id y v):=by
 unfold js;split
 ·exact⟨h.1,by show(im x.2 id _ v).length<=x.1;rw[mS];exact h.2⟩
 exact h
theorem nQ{A:List R1}{x:Int}(h:∀a∈A,a.1≠x):without A x=A:=by
 unfold without;rw[List.filter_eq_self];intro a b;simpa using h a b
theorem En{t:T}{A:List R1}{x:Int}{y:ByteArray}{v:T3}(h:jt t A x y v=0):(∃a∈A,a.1=x)/\∃j,∃b:j<t.cols.length,gx t.cols y=(j:Int)/\lx t.cols[j].kd v=true:=by
 unfold jt at h;split at h
 ·rename_i f;split at h
  ·rename_i c;split at h
   ·rename_i d;refine⟨lS.1 f,?_⟩;rcases gE t.cols y with e|⟨j,b,e⟩
    ·rw[e]at c;exact absurd c (by decide)
    rw[e,v7,z6 b]at d;exact⟨j,b,e,d⟩
   exact absurd h (by decide)
  exact absurd h (by decide)
 exact absurd h (by decide)
section
variable {W w w':World}{d b:Nat}{ts us:List T}{st:List DT}{tt:List RT}{O:Nat->Nat}{i:NI}{j m:Nat}
theorem gL{α:Type}{l:List α}{j:Nat}(hj:j<l.length):l.set j l[j]=l:=List.set_getElem_self hj
theorem Dd.gj(h:Dd w d ts st O)(hj:j<ts.length)(hj':j<st.length){S:Nat->Prop}{v:Value}{vals:List T3}(hv:eb S w v vals)(hS:∀q,S q->O q=0)(hm:dw m st[j].2)(hm3:m<=590)(hc:ts[j].cols.length<=1000)(hs:∀x∈vals,x.2.2.size<=maxLen)(hl:vals.length<=1000000):Calls prog 37 #[.pointer (some ⟨st[j].1,0,none⟩),v] w fun e w'=>e=.returned (.tuple #[.int .i64 (jx ts[j] st[j].2 vals),.int .i64 (dj ts[j] vals)])/\∃f,Dd w' d ts (st.set j (st[j].1,YthlccadnojnkaaaGreat.gj ts[j] st[j].2 vals)) f/\Ext w O f/\Tn (fun q=>O q=j+2) w w':=by
 unfold jx YthlccadnojnkaaaGreat.gj;by_cases a:dj ts[j] vals=0
 ·rw[zv a,zv a,a];exact h.turn hj hj' (R:=fun e=>e=.returned (.tuple #[.int .i64 (st[j].2.1:Int),.int .i64 0])) (fun b hT c=>mU hT hv (fun q g=>Classical.byContradiction fun k=>by have l:=c q k;rw[hS q g]at l;omega) (by have:=hm.1;omega) hc hs hl a)
 rw[zq a,zq a];obtain⟨b,hT,_⟩:=h.tab j hj hj';refine(pI hT hv (by have:=hm.1;omega) hc hs hl a).mono ?_;rintro e w'⟨rfl,i⟩;refine⟨rfl,O,?_,fun q g=>rfl,Tn.of_below i⟩;rw[show((st[j].1,st[j].2):DT)=st[j]from rfl,gL hj'];exact h.later i
theorem Dd.kh(h:Dd w d ts st O)(hj:j<ts.length)(hj':j<st.length){id:Int}(hid:kj id)(hm:dw m st[j].2)(hm3:m<=590)(hc:ts[j].cols.length<=1000):Calls prog 39 #[.pointer (some ⟨st[j].1,0,none⟩),.int .i64 id] w fun e w'=>e=.returned (.bool (dg st[j].2.2 id))/\∃f,Dd w' d ts (st.set j (st[j].1,YthlccadnojnkaaaGreat.kh st[j].2 id)) f/\Ext w O f/\Tn (fun q=>O q=j+2) w w':=by
 unfold YthlccadnojnkaaaGreat.kh;cases g:dg st[j].2.2 id with
 | true =>
  obtain⟨a,i,rfl⟩:=kG.1 g;exact h.turn hj hj' (R:=fun e=>e=.returned (.bool true)) (fun c hT k=>mV hT i (by have:=hm.1;omega) hc)
 | false =>
  obtain⟨c,hT,_⟩:=h.tab j hj hj';have b:=nN.1 g;refine(Ij hT hid b).mono ?_;rintro e w'⟨rfl,rfl⟩;refine⟨rfl,O,?_,fun q l=>rfl,Tn.refl _ _⟩;rw[nQ b,show((st[j].1,(st[j].2.1,st[j].2.2)):DT)=st[j]from rfl,gL hj'];exact h
theorem Dd.js(h:Dd w d ts st O)(hj:j<ts.length)(hj':j<st.length){id:Int}(hid:kj id)(y:ByteArray)(u:T3)(hs:u.2.2.size<=maxLen)(hm:dw m st[j].2)(hm3:m<=590):Calls prog 41 #[.pointer (some ⟨st[j].1,0,none⟩),.int .i64 id,.string y,.agg #[.int .i64 u.1,.int .i64 u.2.1,.string u.2.2]] w fun e w'=>e=.returned (.int .i64 (jt ts[j] st[j].2.2 id y u))/\∃g,Dd w' d ts (st.set j (st[j].1,YthlccadnojnkaaaGreat.js ts[j] st[j].2 id y u)) g/\Ext w O g/\Tn (fun q=>O q=j+2) w w':=by
 unfold YthlccadnojnkaaaGreat.js;by_cases b:jt ts[j] st[j].2.2 id y u=0
 ·rw[zv b,b];obtain⟨⟨a,n,rfl⟩,k,o,i,c⟩:=En b;rw[i,v7];exact h.turn hj hj' (R:=fun e=>e=.returned (.int .i64 0)) (fun f hT p=>mW hT n (by have:=hm.1;omega) o i u.1 u.2.1 u.2.2 hs c)
 rw[zq b];obtain⟨f,hT,_⟩:=h.tab j hj hj';refine(KT hT hid y u.1 u.2.1 u.2.2 hs b).mono ?_;rintro e w'⟨rfl,l⟩;refine⟨rfl,O,?_,fun q r=>rfl,Tn.of_below l⟩;rw[show((st[j].1,st[j].2):DT)=st[j]from rfl,gL hj'];exact h.later l
theorem ew.gj(h:ew w b ts tt i O)(hj:j<ts.length)(hj':j<tt.length){S:Nat->Prop}{v:Value}{vals:List T3}(hv:eb S w v vals)(hS:∀q,S q->O q=0)(hm:dw m (bo tt[j]))(hm3:m<=590)(hc:ts[j].cols.length<=1000)(h0:0<ts[j].cols.length)(hs:∀x∈vals,x.2.2.size<=maxLen)(hl:vals.length<=1000000):Calls prog 38 #[.pointer (some ⟨b,0,none⟩),.int .i64 (j:Int),v] w fun e w'=>e=.returned (.tuple #[.int .i64 (jx ts[j] (bo tt[j]) vals),.int .i64 (dj ts[j] vals)])/\∃tt' c,ew w' b ts tt' i c/\tt'.map bo=(tt.map bo).set j (YthlccadnojnkaaaGreat.gj ts[j] (bo tt[j]) vals)/\Ext w O c/\Tn (fun q=>O q≠0) w w':=by
 unfold jx YthlccadnojnkaaaGreat.gj;obtain⟨d,f⟩:=hm;have d:tt[j].nx<=m:=d;have f:tt[j].A.length<=tt[j].nx:=f;by_cases a:dj ts[j] vals=0
 ·rw[zv a,zv a,a];refine(JL h hj (z6 hj') hv hS hs hc h0 hl (by omega) (by omega) a).mono ?_;rintro e w'⟨rfl,x,c,k,l,n,o,p⟩;refine⟨rfl,_,c,k,?_,o,p⟩;rw[List.map_set]
  congr 1
  show(x.nx,x.A)=_;rw[l,n]
 rw[zq a,zq a];refine(Gv h hj (z6 hj') hv hs hc hl a).mono ?_;rintro e w'⟨rfl,g⟩;refine⟨rfl,tt,O,h.later g,?_,fun q r=>rfl,Tn.of_below g⟩;rw[show bo tt[j]=(tt.map bo)[j]'(by rw[yh];exact hj')by rw[xa],gL]
theorem ew.kh(h:ew w b ts tt i O)(hj:j<ts.length)(hj':j<tt.length)(id:Int)(hm:dw m (bo tt[j]))(hm3:m<=590):Calls prog 40 #[.pointer (some ⟨b,0,none⟩),.int .i64 (j:Int),.int .i64 id] w fun e w'=>e=.returned (.bool (dg tt[j].A id))/\∃tt' d,ew w' b ts tt' i d/\tt'.map bo=(tt.map bo).set j (YthlccadnojnkaaaGreat.kh (bo tt[j]) id)/\Ext w O d/\Tn (fun q=>O q≠0) w w':=by
 unfold YthlccadnojnkaaaGreat.kh;obtain⟨f,g⟩:=hm;have f:tt[j].nx<=m:=f;have g:tt[j].A.length<=tt[j].nx:=g;cases l:dg tt[j].A id with
 | true =>
  obtain⟨a,n,rfl⟩:=kG.1 l;obtain⟨k,o,rfl⟩:=xz n;refine(Ki h hj (z6 hj') (by omega) o).mono ?_;rintro e w'⟨rfl,x,d,p,r,s,t,u⟩;refine⟨rfl,_,d,p,?_,t,u⟩;rw[List.map_set]
  congr 1
  show(x.nx,x.A)=_;rw[r,s]
 | false =>
  have c:=nN.1 l;refine(G8 h hj (z6 hj') (by omega) c).mono ?_;rintro e w'⟨rfl,rfl⟩;refine⟨rfl,tt,O,h,?_,fun q v=>rfl,Tn.refl _ _⟩;show tt.map bo=(tt.map bo).set j (tt[j].nx,without tt[j].A id);rw[nQ c,show(tt[j].nx,tt[j].A)=(tt.map bo)[j]'(by rw[yh];exact hj')by rw[xa],gL]
theorem ew.js(h:ew w b ts tt i O)(hj:j<ts.length)(hj':j<tt.length)(id:Int)(y:ByteArray)(u:T3)(hs:u.2.2.size<=maxLen)(h0:0<ts[j].cols.length)(hm:dw m (bo tt[j]))(hm3:m<=590):Calls prog 42 #[.pointer (some ⟨b,0,none⟩),.int .i64 (j:Int),.int .i64 id,.string y,.agg #[.int .i64 u.1,.int .i64 u.2.1,.string u.2.2]] w fun e w'=>e=.returned (.int .i64 (jt ts[j] tt[j].A id y u))/\∃tt' a,ew w' b ts tt' i a/\tt'.map bo=(tt.map bo).set j (YthlccadnojnkaaaGreat.js ts[j] (bo tt[j]) id y u)/\Ext w O a/\Tn (fun q=>O q≠0) w w':=by
 unfold YthlccadnojnkaaaGreat.js;obtain⟨c,d⟩:=hm;have c:tt[j].nx<=m:=c;have d:tt[j].A.length<=tt[j].nx:=d;refine(Kl h hj (z6 hj') (by omega) h0 id y u.1 u.2.1 u.2.2 hs).mono ?_;rintro e w'⟨rfl,x,f,g,k,l⟩;refine⟨rfl,_,O,f,?_,fun q n=>rfl,l⟩;rw[List.map_set]
 congr 1
 show(x.nx,x.A)=_;rw[g,k];show(tt[j].nx,if jt ts[j] tt[j].A id y u=0 then _ else _)=if jt ts[j] tt[j].A id y u=0 then _ else _
 split <;> rfl
end
section
variable {K K':Nat->Prop}{W W0 w w':World}{d b:Nat}{ts us:List T}{st st':List DT}{tt tt':List RT}
theorem PS.tk(h:PS K W0 w d ts st b us tt){f:FuncId}{args:Array Value}{R:Ending->Prop}{ts':List T}{Q:List DT->Prop}(hc:∀c,Dd w d ts st c->(∀q,K q->c q=0)->Calls prog f args w fun e w'=>R e/\∃st' g,Q st'/\Dd w' d ts' st' g/\Ext w c g/\Tn (fun q=>c q≠0) w w'):Calls prog f args w fun e w'=>R e/\∃st',Q st'/\PS K W0 w' d ts' st' b us tt:=by
 obtain⟨c,l,i,t,m,n,j,o⟩:=h;refine(hc c t (fun q a=>(j q a).2.1)).mono ?_;rintro e w'⟨u,st',g,v,x,p,hT⟩;have k:∀q,l q≠0->q<w.heap.size:=m.lt;refine⟨u,st',v,g,l,i,x,m.tn hT (fun q a=>n q a),fun q a=>?_,fun q a=>?_,o.trans hT (fun _ _ h=>h) (fun q _ a y=>a (j q y).2.1)⟩
 ·refine Classical.byContradiction fun r=>?_
  have z:=k q r;rw[p q z]at a;exact r (n q a)
 obtain⟨s,A,B⟩:=j q a;exact⟨s,(p q (z9 s o.size)).trans A,B⟩
theorem PS.tc(h:PS K W0 w d ts st b us tt){f:FuncId}{args:Array Value}{R:Ending->Prop}{us':List T}{Q:List RT->Prop}(hc:∀i c,ew w b us tt i c->(∀q,K q->c q=0)->Calls prog f args w fun e w'=>R e/\∃tt' j g,Q tt'/\ew w' b us' tt' j g/\Ext w c g/\Tn (fun q=>c q≠0) w w'):Calls prog f args w fun e w'=>R e/\∃tt',Q tt'/\PS K W0 w' d ts st b us' tt':=by
 obtain⟨r,c,i,l,s,m,k,n⟩:=h;refine(hc i c s (fun q a=>(k q a).2.2)).mono ?_;rintro e w'⟨t,tt',j,g,u,v,o,hT⟩;refine⟨t,tt',u,r,g,j,l.tn hT (fun q a=>Classical.byContradiction fun x=>a (m q x)),v,fun q a=>?_,fun q a=>?_,n.trans hT (fun _ _ h=>h) (fun q _ a y=>a (k q y).2.2)⟩
 ·rw[o q (l.lt q a)];exact m q a
 obtain⟨p,z,A⟩:=k q a;exact⟨p,z,(o q (z9 p n.size)).trans A⟩
theorem PS.with(h:PS K W0 w d ts st b us tt)(hb:Below w.heap.size w w'):PS (fun q=>K q∨(w.heap.size<=q/\q<w'.heap.size)) w' w' d ts st b us tt:=by
 obtain⟨g,j,i,e,f,k,l,m⟩:=h;refine⟨g,j,i,e.later hb,f.later hb,k,fun q a=>?_,Tn.refl _ _⟩;rcases a with a|⟨s,n⟩
 ·obtain⟨o,p,r⟩:=l q a;exact⟨z9 (z9 o m.size) hb.size,p,r⟩
 exact⟨n,Classical.byContradiction fun c=>by have:=e.lt q c;omega,Classical.byContradiction fun c=>by have:=f.lt q c;omega⟩
theorem PS.back(h:PS K W0 w d ts st b us tt){ts' us':List T}(h2:PS K' w w' d ts' st' b us' tt')(hk:∀q,K q->K' q):PS K W0 w' d ts' st' b us' tt':=by
 obtain⟨_,_,_,_,_,_,c,e⟩:=h;obtain⟨f,g,i,j,k,l,m,n⟩:=h2;exact⟨f,g,i,j,k,l,fun q a=>⟨(c q a).1,(m q (hk q a)).2⟩,e.trans n (fun _ _ h=>h) (fun q _ o a=>o (hk q a))⟩
theorem PS.bel(h:PS K W0 w d ts st b us tt)(hb:Below W.heap.size W W0)(hk:∀q,q<W.heap.size->K q):Below W.heap.size W w:=by
 obtain⟨_,_,_,_,_,_,_,a⟩:=h;exact hb.trans (a.chg.below hb.size (fun q f c=>Classical.byContradiction fun e=>c (hk q (by omega))))
theorem PS.Ah(h:PS K W0 w d ts st b us tt):st.length=ts.length:=by obtain⟨_,_,_,a,_⟩:=h;exact a.len
theorem PS.ux(h:PS K W0 w d ts st b us tt):tt.length=us.length:=by obtain⟨_,_,_,_,a,_⟩:=h;exact a.n
end
def PD(K:Nat->Prop)(W0 w:World)(d b:Nat)(ts:List T)(ps:List Nat)(L1 L2:List PT):Prop:=∃st tt,PS K W0 w d ts st b ts tt/\st.map (·.1)=ps/\st.map (·.2)=L1/\tt.map bo=L2
section
variable {K K':Nat->Prop}{W W0 w w':World}{d b:Nat}{ts:List T}{ps:List Nat}{L1 L2:List PT}{j m:Nat}
theorem PD.len(h:PD K W0 w d b ts ps L1 L2):ps.length=ts.length/\L1.length=ts.length/\L2.length=ts.length:=by
 obtain⟨st,tt,a,rfl,rfl,rfl⟩:=h;exact⟨by rw[yh];exact a.Ah,by rw[yh];exact a.Ah,by rw[yh];exact a.ux⟩
theorem PD.later(h:PD K W0 w d b ts ps L1 L2)(hb:Below w.heap.size w w'):PD K W0 w' d b ts ps L1 L2:=by
 obtain⟨st,tt,a,c⟩:=h;exact⟨st,tt,a.later hb,c⟩
theorem PD.with(h:PD K W0 w d b ts ps L1 L2)(hb:Below w.heap.size w w'):PD (fun q=>K q∨(w.heap.size<=q/\q<w'.heap.size)) w' w' d b ts ps L1 L2:=by
 obtain⟨st,tt,a,c⟩:=h;exact⟨st,tt,a.with hb,c⟩
theorem PD.back(h:PD K W0 w d b ts ps L1 L2){L3 L4:List PT}(h2:PD K' w w' d b ts ps L3 L4)(hk:∀q,K q->K' q):PD K W0 w' d b ts ps L3 L4:=by
 obtain⟨st,tt,a,_⟩:=h;obtain⟨st',tt',c,e⟩:=h2;exact⟨st',tt',a.back c hk,e⟩
theorem PD.bel(h:PD K W0 w d b ts ps L1 L2)(hb:Below W.heap.size W W0)(hk:∀q,q<W.heap.size->K q):Below W.heap.size W w:=by
 obtain⟨st,tt,a,_⟩:=h;exact a.bel hb hk
theorem PD.still(h:PD K W0 w d b ts ps L1 L2){q:Nat}(hq:K q):w.heap[q]?=W0.heap[q]?:=by
 obtain⟨st,tt,a,_⟩:=h;exact a.still hq
theorem PD.dd(h:PD K W0 w d b ts ps L1 L2):∃st O,Dd w d ts st O/\st.map (·.1)=ps/\st.map (·.2)=L1:=by
 obtain⟨st,tt,⟨a,_,_,c,_⟩,e,f,_⟩:=h;exact⟨st,a,c,e,f⟩
theorem PD.dbn(h:PD K W0 w d b ts ps L1 L2):∃tt i O,ew w b ts tt i O/\tt.map bo=L2:=by
 obtain⟨st,tt,⟨_,a,i,_,c,_⟩,_,_,e⟩:=h;exact⟨tt,i,a,c,e⟩
theorem PD.table(h:PD K W0 w d b ts ps L1 L2)(hj:j<ts.length)(hx:ts[j].nm.size<=maxLen)(hp:j<ps.length):Calls prog 29 #[.pointer (some ⟨d,0,none⟩),.string ts[j].nm] w fun e w'=>e=.returned (.pointer (some ⟨ps[j],0,none⟩))/\w'=w:=by
 obtain⟨st,O,a,rfl,_⟩:=h.dd;rw[xa];exact a.table hj hx (by rw[a.len];exact hj)
theorem kI{st:List DT}(hj:j<st.length)(x:PT):((st.set j (st[j].1,x)).map (·.1)=st.map (·.1))/\((st.set j (st[j].1,x)).map (·.2)=(st.map (·.2)).set j x):=by
 rw[List.map_set,List.map_set];refine⟨?_,rfl⟩;have:(st.map (·.1))[j]'(by rw[yh];exact hj)=st[j].1:=(by rw[xa]);rw[<-this];exact gL _
theorem PD.Bz(h:PD K W0 w d b ts ps L1 L2)(hj:j<ts.length)(hp:j<ps.length)(hL:j<L1.length){S:Nat->Prop}{v:Value}{vals:List T3}(hv:eb S w v vals)(hS:∀q,S q->K q)(hm:dw m L1[j])(hm3:m<=590)(hc:ts[j].cols.length<=1000)(hs:∀x∈vals,x.2.2.size<=maxLen)(hl:vals.length<=1000000):Calls prog 37 #[.pointer (some ⟨ps[j],0,none⟩),v] w fun e w'=>e=.returned (.tuple #[.int .i64 (jx ts[j] L1[j] vals),.int .i64 (dj ts[j] vals)])/\PD K W0 w' d b ts ps (L1.set j (gj ts[j] L1[j] vals)) L2:=by
 obtain⟨st,tt,f,rfl,rfl,rfl⟩:=h;have a:j<st.length:=(by rw[f.Ah];exact hj);simp only[xa]at hm ⊢;refine(f.tk (ts':=ts) (R:=fun e=>e=.returned (.tuple #[.int .i64 (jx ts[j] st[j].2 vals),.int .i64 (dj ts[j] vals)])) (Q:=fun st'=>st'=st.set j (st[j].1,gj ts[j] st[j].2 vals)) (fun g i k=>?_)).mono ?_
 ·refine(i.gj hj a hv (fun q c=>k q (hS q c)) hm hm3 hc hs hl).mono ?_;rintro e w'⟨rfl,l,n,o,p⟩;exact⟨rfl,_,l,rfl,n,o,p.mono (fun q _ c=>by have c:g q=j+2:=c;show g q≠0;omega)⟩
 rintro e w'⟨rfl,st',rfl,r⟩;obtain⟨s,t⟩:=kI a (gj ts[j] st[j].2 vals);exact⟨rfl,_,tt,r,s,t,rfl⟩
theorem PD.CB(h:PD K W0 w d b ts ps L1 L2)(hj:j<ts.length)(hp:j<ps.length)(hL:j<L1.length){id:Int}(hid:kj id)(hm:dw m L1[j])(hm3:m<=590)(hc:ts[j].cols.length<=1000):Calls prog 39 #[.pointer (some ⟨ps[j],0,none⟩),.int .i64 id] w fun e w'=>e=.returned (.bool (dg L1[j].2 id))/\PD K W0 w' d b ts ps (L1.set j (kh L1[j] id)) L2:=by
 obtain⟨st,tt,c,rfl,rfl,rfl⟩:=h;have a:j<st.length:=(by rw[c.Ah];exact hj);simp only[xa]at hm ⊢;refine(c.tk (ts':=ts) (R:=fun e=>e=.returned (.bool (dg st[j].2.2 id))) (Q:=fun st'=>st'=st.set j (st[j].1,kh st[j].2 id)) (fun f i t=>?_)).mono ?_
 ·refine(i.kh hj a hid hm hm3 hc).mono ?_;rintro e w'⟨rfl,k,l,n,o⟩;exact⟨rfl,_,k,rfl,l,n,o.mono (fun q _ g=>by have g:f q=j+2:=g;show f q≠0;omega)⟩
 rintro e w'⟨rfl,st',rfl,p⟩;obtain⟨r,s⟩:=kI a (kh st[j].2 id);exact⟨rfl,_,tt,p,r,s,rfl⟩
theorem PD.Ce(h:PD K W0 w d b ts ps L1 L2)(hj:j<ts.length)(hp:j<ps.length)(hL:j<L1.length){id:Int}(hid:kj id)(y:ByteArray)(u:T3)(hs:u.2.2.size<=maxLen)(hm:dw m L1[j])(hm3:m<=590):Calls prog 41 #[.pointer (some ⟨ps[j],0,none⟩),.int .i64 id,.string y,.agg #[.int .i64 u.1,.int .i64 u.2.1,.string u.2.2]] w fun e w'=>e=.returned (.int .i64 (jt ts[j] L1[j].2 id y u))/\PD K W0 w' d b ts ps (L1.set j (js ts[j] L1[j] id y u)) L2:=by
 obtain⟨st,tt,c,rfl,rfl,rfl⟩:=h;have a:j<st.length:=(by rw[c.Ah];exact hj);simp only[xa]at hm ⊢;refine(c.tk (ts':=ts) (R:=fun e=>e=.returned (.int .i64 (jt ts[j] st[j].2.2 id y u))) (Q:=fun st'=>st'=st.set j (st[j].1,js ts[j] st[j].2 id y u)) (fun f i t=>?_)).mono ?_
 ·refine(i.js hj a hid y u hs hm hm3).mono ?_;rintro e w'⟨rfl,k,l,n,o⟩;exact⟨rfl,_,k,rfl,l,n,o.mono (fun q _ g=>by have g:f q=j+2:=g;show f q≠0;omega)⟩
 rintro e w'⟨rfl,st',rfl,p⟩;obtain⟨r,s⟩:=kI a (js ts[j] st[j].2 id y u);exact⟨rfl,_,tt,p,r,s,rfl⟩
theorem PD.jx(h:PD K W0 w d b ts ps L1 L2)(hj:j<ts.length)(hL:j<L2.length){S:Nat->Prop}{v:Value}{vals:List T3}(hv:eb S w v vals)(hS:∀q,S q->K q)(hm:dw m L2[j])(hm3:m<=590)(hc:ts[j].cols.length<=1000)(h0:0<ts[j].cols.length)(hs:∀x∈vals,x.2.2.size<=maxLen)(hl:vals.length<=1000000):Calls prog 38 #[.pointer (some ⟨b,0,none⟩),.int .i64 (j:Int),v] w fun e w'=>e=.returned (.tuple #[.int .i64 (YthlccadnojnkaaaGreat.jx ts[j] L2[j] vals),.int .i64 (dj ts[j] vals)])/\PD K W0 w' d b ts ps L1 (L2.set j (gj ts[j] L2[j] vals)):=by
 obtain⟨st,tt,c,rfl,rfl,rfl⟩:=h;have a:j<tt.length:=(by rw[c.ux];exact hj);simp only[xa]at hm ⊢;refine(c.tc (us':=ts) (R:=fun e=>e=.returned (.tuple #[.int .i64 (YthlccadnojnkaaaGreat.jx ts[j] (bo tt[j]) vals),.int .i64 (dj ts[j] vals)])) (Q:=fun tt'=>tt'.map bo=(tt.map bo).set j (gj ts[j] (bo tt[j]) vals)) (fun i u f g=>?_)).mono ?_
 ·refine(f.gj hj a hv (fun q k=>g q (hS q k)) hm hm3 hc h0 hs hl).mono ?_;rintro e w'⟨rfl,tt',l,n,o,p,r⟩;exact⟨rfl,tt',i,l,o,n,p,r⟩
 rintro e w'⟨rfl,tt',s,t⟩;exact⟨rfl,st,tt',t,rfl,rfl,s⟩
theorem PD.Bd(h:PD K W0 w d b ts ps L1 L2)(hj:j<ts.length)(hL:j<L2.length)(id:Int)(hm:dw m L2[j])(hm3:m<=590):Calls prog 40 #[.pointer (some ⟨b,0,none⟩),.int .i64 (j:Int),.int .i64 id] w fun e w'=>e=.returned (.bool (dg L2[j].2 id))/\PD K W0 w' d b ts ps L1 (L2.set j (kh L2[j] id)):=by
 obtain⟨st,tt,c,rfl,rfl,rfl⟩:=h;have a:j<tt.length:=(by rw[c.ux];exact hj);simp only[xa]at hm ⊢;refine(c.tc (us':=ts) (R:=fun e=>e=.returned (.bool (dg (bo tt[j]).2 id))) (Q:=fun tt'=>tt'.map bo=(tt.map bo).set j (kh (bo tt[j]) id)) (fun i r f s=>?_)).mono ?_
 ·refine(f.kh hj a id hm hm3).mono ?_;rintro e w'⟨rfl,tt',g,k,l,n,o⟩;exact⟨rfl,tt',i,g,l,k,n,o⟩
 rintro e w'⟨rfl,tt',p,q⟩;exact⟨rfl,st,tt',q,rfl,rfl,p⟩
theorem PD.Ba(h:PD K W0 w d b ts ps L1 L2)(hj:j<ts.length)(hL:j<L2.length)(id:Int)(y:ByteArray)(u:T3)(hs:u.2.2.size<=maxLen)(h0:0<ts[j].cols.length)(hm:dw m L2[j])(hm3:m<=590):Calls prog 42 #[.pointer (some ⟨b,0,none⟩),.int .i64 (j:Int),.int .i64 id,.string y,.agg #[.int .i64 u.1,.int .i64 u.2.1,.string u.2.2]] w fun e w'=>e=.returned (.int .i64 (jt ts[j] L2[j].2 id y u))/\PD K W0 w' d b ts ps L1 (L2.set j (js ts[j] L2[j] id y u)):=by
 obtain⟨st,tt,c,rfl,rfl,rfl⟩:=h;have a:j<tt.length:=(by rw[c.ux];exact hj);simp only[xa]at hm ⊢;refine(c.tc (us':=ts) (R:=fun e=>e=.returned (.int .i64 (jt ts[j] (bo tt[j]).2 id y u))) (Q:=fun tt'=>tt'.map bo=(tt.map bo).set j (js ts[j] (bo tt[j]) id y u)) (fun i r f s=>?_)).mono ?_
 ·refine(f.js hj a id y u hs h0 hm hm3).mono ?_;rintro e w'⟨rfl,tt',g,k,l,n,o⟩;exact⟨rfl,tt',i,g,l,k,n,o⟩
 rintro e w'⟨rfl,tt',p,q⟩;exact⟨rfl,st,tt',q,rfl,rfl,p⟩
end
theorem cP(W:World):Calls prog 13 #[] W fun e w'=>∃d b ps,e=.returned (.tuple #[.pointer (some ⟨d,0,none⟩),.pointer (some ⟨b,0,none⟩)])/\PD (fun q=>q<W.heap.size) W w' d b (pre 4) ps (List.replicate 4 (0,[])) (List.replicate 4 (0,[])):=by
 refine(xW W).mono ?_;rintro e w'⟨rfl,K,s,st,g,f,⟨j,k,i,l,m,n,o,p⟩,c⟩;refine⟨_,_,st.map (·.1),rfl,st,List.replicate 4 Al,⟨j,k,i,l,m,n,fun q a=>⟨a,(o q (f q a)).2⟩,(Tn.of_below (S:=fun _=>False) g).trans p (fun _ _ h=>h.elim) (fun q _ r a=>r (f q a))⟩,rfl,c,rfl⟩
