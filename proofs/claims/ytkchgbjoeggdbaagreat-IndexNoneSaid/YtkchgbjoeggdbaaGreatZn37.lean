import Derived.Test.YtkchgbjoeggdbaaGreatZn36
set_option maxHeartbeats 4000000
set_option maxRecDepth 100000
namespace Go.Proofs.YtkchgbjoeggdbaaGreat
open Go.Proofs.Tryz
open Go Go.RowKit Go.Proofs Co Co.S
def iw:List Value:=(List.replicate 8 [.string e0,.slice none 0 0,.string e0,.slice none 0 0]).flatten
def rm(d:Nat)(q:Nat):Nat:=if q=d then 1 else 0
theorem Dd.new(W:World):Dd (W.alloc (.cells (iw++[.int .i64 0,Value.map none]).toArray 66)) W.heap.size [] [] (rm W.heap.size):=by
 have a:=z7 W (.cells (iw++[.int .i64 0,Value.map none]).toArray 66);refine⟨⟨.map none,fun _=>none,0,⟨by decide,[],iw,?_,rfl,?_⟩,.inl ⟨rfl,rfl,fun _=>rfl⟩,fun j h=>absurd h (yh _),fun _ _=>rfl,fun b a=>(by cases a)⟩,rfl,fun j _ h=>absurd h (yh _),by unfold rm;rw[zw rfl],fun j h=>absurd h (yh _),fun q c=>?_⟩
 ·rw[a];rfl
 ·exact⟨rfl,fun j d=>absurd d (yh _)⟩
 unfold rm at c;by_cases e:q=W.heap.size
 ·rw[e,zm];omega
 rw[zu e]at c;exact absurd rfl c
theorem im.new(W:World):im (W.alloc (.cells #[.slice none 0 0,.slice none 0 0,.slice none 0 0] 125)) W.heap.size [] [] ⟨.slice none 0 0,.slice none 0 0,.slice none 0 0,[]⟩ (rm W.heap.size):=by
 have b:=z7 W (.cells #[.slice none 0 0,.slice none 0 0,.slice none 0 0] 125);refine⟨b,rfl,rfl,ac.nil,fun j h=>absurd h (yh _),ac.nil,ac.nil,fun j h=>absurd h (yh _),by unfold rm;rw[zw rfl],fun _ h=>(by cases h),fun _ h=>(by cases h),fun _ h=>(by cases h),fun q a=>?_⟩;unfold rm at a;by_cases e:q=W.heap.size
 ·rw[e,zm];omega
 rw[zu e]at a;exact absurd rfl a
theorem tJ(W:World):Calls prog 5 #[] W fun e w'=>e=.returned (.pointer (some ⟨W.heap.size,0,none⟩))/\w'=W.alloc (.cells (iw++[.int .i64 0,Value.map none]).toArray 66):=by
 go_enter func5,ntmps5;go_wp2_with fail;go_ret;exact⟨rfl,rfl⟩
def PS(K:Nat->Prop)(W0 w:World)(d:Nat)(ts:List T)(st:List DT)(b:Nat)(us:List T)(tt:List RT):Prop:=
 ∃Od Ob i,Dd w d ts st Od/\im w b us tt i Ob/\(∀q,Od q≠0->Ob q=0)/\(∀q,K q->q<W0.heap.size/\Od q=0/\Ob q=0)/\Tn (fun q=>¬ K q) W0 w
section
variable{K:Nat->Prop}{W0 w w':World}{d b:Nat}{ts us:List T}{st:List DT}{tt:List RT}{t:T}{cv dv:Value}
theorem PS.later(h:PS K W0 w d ts st b us tt)(hb:Below w.heap.size w w'):PS K W0 w' d ts st b us tt:=by
 obtain⟨a,c,i,e,f,g,j,k⟩:=h;exact⟨a,c,i,e.later hb,f.later hb,g,j,k.trans (Tn.of_below (S:=fun _=>False) hb) (fun _ _ h=>h) (fun _ _ h=>h.elim)⟩
theorem PS.AZ(h:PS K W0 w d ts st b us tt){f:FuncId}{args:Array Value}{R:Ending->Prop}{ts':List T}{Q:List DT->Prop}(hc:∀c,Dd w d ts st c->Calls prog f args w fun e w'=>R e/\∃st' g,Q st'/\Dd w' d ts' st' g/\Ext w c g/\Tn (fun q=>c q≠0) w w'):Calls prog f args w fun e w'=>R e/\∃st',Q st'/\PS K W0 w' d ts' st' b us tt:=by
 obtain⟨c,k,i,t,l,m,n,o⟩:=h;refine(hc c t).mono ?_;rintro e w'⟨u,st',g,v,x,p,hT⟩;have j:∀q,k q≠0->q<w.heap.size:=l.lt;refine⟨u,st',v,g,k,i,x,l.tn hT (fun q a=>m q a),fun q a=>?_,fun q a=>?_,o.trans hT (fun _ _ h=>h) (fun q _ a y=>a (n q y).2.1)⟩
 ·refine Classical.byContradiction fun r=>?_
  have z:=j q r;rw[p q z]at a;exact r (m q a)
 obtain⟨s,A,B⟩:=n q a;exact⟨s,(p q (z9 s o.size)).trans A,B⟩
theorem PS.Ba(h:PS K W0 w d ts st b us tt){f:FuncId}{args:Array Value}{R:Ending->Prop}{us':List T}{tt':List RT}(hc:∀i c,im w b us tt i c->Calls prog f args w fun e w'=>R e/\∃j g,im w' b us' tt' j g/\Ext w c g/\Tn (fun q=>c q≠0) w w'):Calls prog f args w fun e w'=>R e/\PS K W0 w' d ts st b us' tt':=by
 obtain⟨r,c,i,k,s,l,m,n⟩:=h;refine(hc i c s).mono ?_;rintro e w'⟨t,j,g,u,o,hT⟩;refine⟨t,r,g,j,k.tn hT (fun q a=>Classical.byContradiction fun v=>a (l q v)),u,fun q a=>?_,fun q a=>?_,n.trans hT (fun _ _ h=>h) (fun q _ a x=>a (m q x).2.2)⟩
 ·rw[o q (k.lt q a)];exact l q a
 obtain⟨p,y,z⟩:=m q a;exact⟨p,y,(o q (z9 p n.size)).trans z⟩
theorem PS.BP(h:PS K W0 w d ts st b us tt)(hT:dw w cv dv t)(hsm:t6 t)(hyes:dg ts t=0)(hfew:bs ts):Calls prog 54 #[.pointer (some ⟨d,0,none⟩),.agg #[.string t.nm,cv,.string t.key,dv]] w fun e w'=>e=.returned (.int .i64 0)/\∃st',(∃tb,st'=st++[(tb,0,[])])/\PS K W0 w' d (ts++[bj t]) st' b us tt:=
 h.AZ (R:=fun e=>e=.returned (.int .i64 0)) (Q:=fun st'=>∃tb,st'=st++[(tb,0,[])]) (fun a f=>(GL f hT hsm hyes hfew).mono (by
  rintro e w'⟨rfl,tb,g,i,j,k⟩;exact⟨rfl,_,g,⟨tb,rfl⟩,i,j,k.mono (fun q _ c=>by have c:a q=1:=c;show a q≠0;omega)⟩))
theorem PS.addN(h:PS K W0 w d ts st b us tt)(hi:ls us)(hT:dw w cv dv t)(hsm:t6 t)(hyes:dg us t=0)(h0:0<t.cols.length)(hc:t.cols.length<=1000):Calls prog 55 #[.pointer (some ⟨b,0,none⟩),.agg #[.string t.nm,cv,.string t.key,dv]] w fun e w'=>e=.returned (.int .i64 0)/\PS K W0 w' d ts st b (us++[bj t]) (tt++[uo]):=
 h.Ba (R:=fun e=>e=.returned (.int .i64 0)) (fun i m a=>(FT a hi hT hsm hyes h0 hc (by have:=hi.len;omega)).mono (by
  rintro e w'⟨rfl,c,f,g,j,k⟩;exact⟨rfl,c,f,g,j,k.mono (fun q _ l=>l.1)⟩))
theorem PS.still(h:PS K W0 w d ts st b us tt){q:Nat}(hq:K q):w.heap[q]?=W0.heap[q]?:=by
 obtain⟨_,_,_,_,_,_,a,c⟩:=h;exact c.chg.block q (a q hq).1 (fun e=>e hq)
theorem PS.qu(h:PS K W0 w d ts st b us tt):Kp W0 w:=by
 obtain⟨_,_,_,_,_,_,_,a⟩:=h;exact a.qu
end
theorem PS.new(W w3:World)(hb:Below ((W.alloc (.cells (iw++[.int .i64 0,Value.map none]).toArray 66)).alloc (.cells #[.slice none 0 0,.slice none 0 0,.slice none 0 0] 125)).heap.size ((W.alloc (.cells (iw++[.int .i64 0,Value.map none]).toArray 66)).alloc (.cells #[.slice none 0 0,.slice none 0 0,.slice none 0 0] 125)) w3):PS (fun q=>q<w3.heap.size/\q≠W.heap.size/\q≠W.heap.size+1) w3 w3 W.heap.size [] [] (W.heap.size+1) [] []:=by
 have c:=((Dd.new W).later (aD _ (.cells #[.slice none 0 0,.slice none 0 0,.slice none 0 0] 125))).later hb;have b:=(im.new (W.alloc (.cells (iw++[.int .i64 0,Value.map none]).toArray 66))).later hb;rw[zm]at b;refine⟨_,_,_,c,b,fun q a=>?_,fun q a=>⟨a.1,?_,?_⟩,Tn.refl _ _⟩
 ·unfold rm at a ⊢;by_cases e:q=W.heap.size
  ·rw[zu (by omega)]
  rw[zu e]at a;exact absurd rfl a
 ·unfold rm;rw[zu a.2.1]
 unfold rm;rw[zu a.2.2]
theorem Ib(W:World):Calls prog 53 #[] W fun e w'=>e=.returned (sl (W.heap.size+8) 4)/\iq w' (sl (W.heap.size+8) 4) dn/\Below W.heap.size W w':=by
 have a:=aa (ab (rP W) (gH (rx W.heap.size) W));go_enter func53,ntmps53;go_wp2_with fail;go_ret;exact⟨rfl,a.1,a.2⟩
def pre(j:Nat):List T:=(dn.take j).map bj
theorem tK(j:Nat)(h:j<dn.length):pre j++[bj dn[j]]=pre (j+1):=by
 unfold pre;rw[yi h,vw];rfl
theorem yL:∀j (h:j<dn.length),dg (pre j) dn[j]=0
 | 0,_=>by kernel_rfl
 | 1,_=>by kernel_rfl
 | 2,_=>by kernel_rfl
 | 3,_=>by kernel_rfl
 | j+4,h=>absurd h (by simp[dn])
theorem DE:∀j (h:j<dn.length),0<dn[j].cols.length/\dn[j].cols.length<=1000
 | 0,_=>⟨by show 0<2;decide,by show 2<=1000;decide⟩
 | 1,_=>⟨by show 0<4;decide,by show 4<=1000;decide⟩
 | 2,_=>⟨by show 0<3;decide,by show 3<=1000;decide⟩
 | 3,_=>⟨by show 0<4;decide,by show 4<=1000;decide⟩
 | j+4,h=>absurd h (by simp[dn])
theorem tL:∀j (h:j<dn.length),t6 dn[j]:=fun j h=>by
 have b:∀x:ByteArray,x.size<=20->x.size<=maxLen:=fun x f=>by unfold maxLen;omega
 have a:∀t∈dn,t6 t:=by
  intro t d;simp only[dn,xy,vk,or_false]at d;rcases d with rfl|rfl|rfl|rfl
  all_goals
   refine⟨b _ (by decide),fun c e=>b _ ?_⟩
   revert c e
   decide
 exact a _ (z8 h)
theorem nC(l:List T)(h0:l.length<=8)(h1:l.all (fun t=>t.cols.all fun c=>named c.nm)=true)(h2:l.all bm=true)(h3:∀i (hi:i<l.length),bg l l[i].nm=some l[i]/\jz l l[i].nm=(i:Int)):ls l:=
 ⟨h0,fun t a c b=>List.all_eq_true.1 (List.all_eq_true.1 h1 t a) c b,fun t a=>List.all_eq_true.1 h2 t a,h3⟩
theorem cO:∀j,j<=4->ls (pre j)
 | 0,_=>nC _ (by show 0<=8;decide) (by kernel_rfl) (by kernel_rfl) (fun i a=>match i,a with
  | i+0,a=>absurd a (by show ¬ i+0<0;omega))
 | 1,_=>nC _ (by show 1<=8;decide) (by kernel_rfl) (by kernel_rfl) (fun i a=>match i,a with
  | 0,_=>⟨by kernel_rfl,by kernel_rfl⟩
  | i+1,a=>absurd a (by show ¬ i+1<1;omega))
 | 2,_=>nC _ (by show 2<=8;decide) (by kernel_rfl) (by kernel_rfl) (fun i a=>match i,a with
  | 0,_=>⟨by kernel_rfl,by kernel_rfl⟩
  | 1,_=>⟨by kernel_rfl,by kernel_rfl⟩
  | i+2,a=>absurd a (by show ¬ i+2<2;omega))
 | 3,_=>nC _ (by show 3<=8;decide) (by kernel_rfl) (by kernel_rfl) (fun i a=>match i,a with
  | 0,_=>⟨by kernel_rfl,by kernel_rfl⟩
  | 1,_=>⟨by kernel_rfl,by kernel_rfl⟩
  | 2,_=>⟨by kernel_rfl,by kernel_rfl⟩
  | i+3,a=>absurd a (by show ¬ i+3<3;omega))
 | 4,_=>nC _ (by show 4<=8;decide) (by kernel_rfl) (by kernel_rfl) (fun i a=>match i,a with
  | 0,_=>⟨by kernel_rfl,by kernel_rfl⟩
  | 1,_=>⟨by kernel_rfl,by kernel_rfl⟩
  | 2,_=>⟨by kernel_rfl,by kernel_rfl⟩
  | 3,_=>⟨by kernel_rfl,by kernel_rfl⟩
  | i+4,a=>absurd a (by show ¬ i+4<4;omega))
 | j+5,h=>absurd h (by omega)
theorem GG:∀t∈dn,Few t:=by
 intro t a;simp only[dn,xy,vk,or_false]at a;rcases a with rfl|rfl|rfl|rfl
 all_goals exact⟨by decide,by decide,by decide⟩
theorem bN(j:Nat):bs (pre j):=fun t a=>by
 unfold pre at a;obtain⟨u,b,rfl⟩:=List.mem_map.1 a;exact tD (GG u (List.mem_of_mem_take b))
theorem wF(W:World):Calls prog 20 #[] W fun e w'=>e=.returned (.tuple #[.pointer (some ⟨W.heap.size,0,none⟩),.pointer (some ⟨W.heap.size+1,0,none⟩)])/\∃(K:Nat->Prop) (a:World) (st:List DT),Below W.heap.size W a/\(∀q,q<W.heap.size->K q)/\PS K a w' W.heap.size (pre 4) st (W.heap.size+1) (pre 4) (List.replicate 4 uo)/\st.map (·.2)=List.replicate 4 (0,[]):=by
 have i:=tJ W;have E:=aD W (.cells (iw++[.int .i64 0,Value.map none]).toArray 66);have p:=aC E (aD (W.alloc (.cells (iw++[.int .i64 0,Value.map none]).toArray 66)) (.cells #[.slice none 0 0,.slice none 0 0,.slice none 0 0] 125));have k:=Ib ((W.alloc (.cells (iw++[.int .i64 0,Value.map none]).toArray 66)).alloc (.cells #[.slice none 0 0,.slice none 0 0,.slice none 0 0] 125));have m:=PS.new W;obtain⟨Z,x⟩:=ae (W.alloc (.cells (iw++[.int .i64 0,Value.map none]).toArray 66));have r:Z.heap.size=W.heap.size+1:=(by rw[<-x,zm]);rw[x]at i p k m;obtain⟨Q,s⟩:=ae (Z.alloc (.cells #[.slice none 0 0,.slice none 0 0,.slice none 0 0] 125));have y:Q.heap.size=W.heap.size+2:=(by rw[<-s,zm,r]);rw[s]at p k m;obtain⟨d,z⟩:=ae W.heap.size;rw[y,z]at k;rw[z]at r m i;have R:=aa s;have S:=aa r;have B:=aa (ab p (ab y (ab z m)));rw[z];clear x s r y E p z m;go_enter func20,ntmps20;go_upto_region 2 with (go_at_call 5;(with_reducible refine i.mono ?_);rintro e wx⟨rfl,hw⟩;subst hw;clear i);rw[R.out,S.out];unfold sl at k;go_wp2_with (go_at_call 53;refine k.mono ?_;rintro e a⟨rfl,hR,n⟩;have n:Below Q.heap.size Q a:=(by rw[B.2.1,B.2.2.1];exact n);have F:=B.2.2.2 a n;have N:=aa (ab hR (ab n F));clear k hR n F);go_loopg [5] 5 (fun gh jv w=>∃(j:Nat) (st:List DT),jv=.int .i64 (j:Int)/\j<=4/\5<=j+gh/\PS (fun q=>q<a.heap.size/\q≠d/\q≠d+1) a w d (pre j) st (d+1) (pre j) (List.replicate j uo)/\st.map (·.2)=List.replicate j (0,[]))
 case atStart=>exact⟨0,[],rfl,by omega,by omega,N.2.2,rfl⟩
 obtain⟨j,st,rfl,hj,hg,G,O⟩:=hrel;by_cases H:j<4
 ·have a0:(j:Int)<4:=(by omega);have l:j<dn.length:=H;obtain⟨b0,a1,cv,dv,e,U,c0,c1,c2,c3,u⟩:=iq.tab N.1 l;cases e;have hK:∀{w:World} {st':List DT} {us v:List T} {tt':List RT},PS (fun q=>q<a.heap.size/\q≠d/\q≠d+1) a w d v st' (d+1) us tt'->w.heap[d+2+8]?=a.heap[d+2+8]?:=fun h=>h.still ⟨U,by omega,by omega⟩
  have c:∀(w:World) (st':List DT) (us v:List T) (tt':List RT),PS (fun q=>q<a.heap.size/\q≠d/\q≠d+1) a w d v st' (d+1) us tt'->w.cell? ⟨d+2+8,j*4,none⟩=some (.string dn[j].nm)/\w.cell? ⟨d+2+8,j*4+1,none⟩=some cv/\w.cell? ⟨d+2+8,j*4+2,none⟩=some (.string dn[j].key)/\w.cell? ⟨d+2+8,j*4+3,none⟩=some dv/\dw w cv dv dn[j]:=fun w st' us v tt' h=>by
   have P:=hK h;rw[xj]at c0 c1 c2 c3;exact⟨(ze (w:=a) P).trans c0,(ze (w:=a) P).trans c1,(ze (w:=a) P).trans c2,(ze (w:=a) P).trans c3,u.kp h.qu⟩
  have b:=(fun(h:dw wr cv dv dn[j])=>G.BP h (tL j l) (yL j l) (bN j));rw[tK]at b;obtain⟨y0,y1,y2,y3,yr⟩:=c _ _ _ _ _ G;have b:=b yr;have f:=DE j l;have g:=(fun(w:World) (st':List DT) (h:PS (fun q=>q<a.heap.size/\q≠d/\q≠d+1) a w d (pre (j+1)) st' (d+1) (pre j) (List.replicate j uo)) (hr:dw w cv dv dn[j])=>h.addN (cO j (by omega)) hr (tL j l) (yL j l) f.1 f.2);rw[tK]at g;obtain⟨pc,kc,rfl,_,_⟩:=u.1.slice;obtain⟨pd,kd,rfl,_,_⟩:=u.2.slice;generalize dn[j]=t at *;obtain⟨nc,V⟩:=ae t.cols.length;obtain⟨nd,X⟩:=ae t.deps.length;rw[V,X]at *;have A:=aa c;have I:=aa g;have HS:=aa O;clear c g hK G O yr c0 c1 c2 c3 u f;go_upto_region 7 with (go_at_call 54;(with_reducible refine b.mono ?_);rintro e w4⟨rfl,st',⟨tb,rfl⟩,J⟩;have L:=aa J;clear b J);obtain⟨x0,x1,x2,x3,xr⟩:=A.out _ _ _ _ _ L.out;have o:=I.out _ _ L.out xr;clear y0 y1 y2 y3 xr;go_wp2_with (go_at_call 55;refine o.mono ?_;rintro e w5⟨rfl,M⟩;have Y:=aa M;clear o M);go_roundg (4-j)
  case measure=>omega
  refine⟨j+1,st++[(tb,0,[])],rfl,by omega,by omega,?_,?_⟩
  ·have:=Y.out
   rw[<-List.replicate_succ']at this;exact this
  rw[vw,HS.out,List.replicate_succ'];rfl
 obtain rfl:j=4:=(by omega);have HP:=aa (ab G O);clear G O H;go_wp2_with fail;go_ret2;have hw:=B.2.1;have z:=B.2.2.1;have hs:=N.2.1.size;exact⟨rfl,_,a,st,z▸aC B.1 N.2.1,fun q hq=>⟨by omega,by omega,by omega⟩,HP.1,HP.2⟩
abbrev PT:Type:=Nat×List R1
abbrev ky(y:RT):PT:=(y.nx,y.A)
def iz(t:T)(x:PT)(vals:List T3):PT:=if ei t vals=0 then(x.1+1,x.2++[((x.1:Int),vals)])else x
def li(t:T)(x:PT)(vals:List T3):Int:=if ei t vals=0 then(x.1:Int)else 0
def nw(x:PT)(id:Int):PT:=(x.1,without x.2 id)
def qr(t:T)(x:PT)(id:Int)(y:ByteArray)(v:T3):PT:=if pu t x.2 id y v=0 then(x.1,ph x.2 id (fx t.cols y).toNat v)else x
def ie(m:Nat)(x:PT):Prop:=x.1<=m/\x.2.length<=x.1
theorem ie.ins{m:Nat}{x:PT}(h:ie m x)(t:T)(vals:List T3):ie (m+1) (iz t x vals):=by
 obtain⟨b,a⟩:=h;unfold iz;split
 ·refine⟨by show x.1+1<=m+1;omega,?_⟩;show(x.2++[((x.1:Int),vals)]).length<=x.1+1;rw[y6];have:[((x.1:Int),vals)].length=1:=rfl;omega
 exact⟨by omega,a⟩
theorem ie.del{m:Nat}{x:PT}(h:ie m x)(id:Int):ie m (nw x id):=
 ⟨h.1,zx (List.length_filter_le _ _) h.2⟩
theorem ie.set{m:Nat}{x:PT}(h:ie m x)(t:T)(id:Int)(y:ByteArray)(v:T3):ie m (qr t x id y v):=by
 unfold qr;split
 ·exact⟨h.1,by show(ph x.2 id _ v).length<=x.1;rw[rW];exact h.2⟩
 exact h
theorem wG{A:List R1}{x:Int}(h:∀a∈A,a.1≠x):without A x=A:=by
 unfold without;rw[List.filter_eq_self];intro a b;simpa using h a b
theorem CX{t:T}{A:List R1}{x:Int}{y:ByteArray}{v:T3}(h:pu t A x y v=0):(∃a∈A,a.1=x)/\∃j,∃b:j<t.cols.length,fx t.cols y=(j:Int)/\lq t.cols[j].kd v=true:=by
 unfold pu at h;split at h
 ·rename_i f;split at h
  ·rename_i c;split at h
   ·rename_i d;refine⟨kY.1 f,?_⟩;rcases jK t.cols y with e|⟨j,b,e⟩
    ·rw[e]at c;exact absurd c (by decide)
    rw[e,wo,z6 b]at d;exact⟨j,b,e,d⟩
   exact absurd h (by decide)
  exact absurd h (by decide)
 exact absurd h (by decide)
section
variable{W w w':World}{d b:Nat}{ts us:List T}{st:List DT}{tt:List RT}{O:Nat->Nat}{i:NI}{j m:Nat}
theorem iX{α:Type}{l:List α}{j:Nat}(hj:j<l.length):l.set j l[j]=l:=List.set_getElem_self hj
theorem Dd.iz(h:Dd w d ts st O)(hj:j<ts.length)(hj':j<st.length){S:Nat->Prop}{v:Value}{vals:List T3}(hv:fk S w v vals)(hS:∀q,S q->O q=0)(hm:ie m st[j].2)(hm3:m<=590)(hc:ts[j].cols.length<=1000)(hs:∀x∈vals,x.2.2.size<=maxLen)(hl:vals.length<=1000000):Calls prog 57 #[.pointer (some ⟨st[j].1,0,none⟩),v] w fun e w'=>e=.returned (.tuple #[.int .i64 (li ts[j] st[j].2 vals),.int .i64 (ei ts[j] vals)])/\∃c,Dd w' d ts (st.set j (st[j].1,YtkchgbjoeggdbaaGreat.iz ts[j] st[j].2 vals)) c/\Ext w O c/\Tn (fun q=>O q=j+2) w w':=by
 unfold li YtkchgbjoeggdbaaGreat.iz;by_cases a:ei ts[j] vals=0
 ·rw[zw a,zw a,a];exact h.turn hj hj' (R:=fun e=>e=.returned (.tuple #[.int .i64 (st[j].2.1:Int),.int .i64 0])) (fun lab hT b=>mI hT hv (fun q f=>Classical.byContradiction fun i=>by have k:=b q i;rw[hS q f]at k;omega) (by have:=hm.1;omega) hc hs hl a)
 rw[zu a,zu a];obtain⟨lab,hT,_⟩:=h.tab j hj hj';refine(oJ hT hv (by have:=hm.1;omega) hc hs hl a).mono ?_;rintro e w'⟨rfl,g⟩;refine⟨rfl,O,?_,fun q f=>rfl,Tn.of_below g⟩;rw[show((st[j].1,st[j].2):DT)=st[j]from rfl,iX hj'];exact h.later g
theorem Dd.nw(h:Dd w d ts st O)(hj:j<ts.length)(hj':j<st.length){id:Int}(hid:lg id)(hm:ie m st[j].2)(hm3:m<=590)(hc:ts[j].cols.length<=1000):Calls prog 24 #[.pointer (some ⟨st[j].1,0,none⟩),.int .i64 id] w fun e w'=>e=.returned (.bool (di st[j].2.2 id))/\∃c,Dd w' d ts (st.set j (st[j].1,YtkchgbjoeggdbaaGreat.nw st[j].2 id)) c/\Ext w O c/\Tn (fun q=>O q=j+2) w w':=by
 unfold YtkchgbjoeggdbaaGreat.nw;cases f:di st[j].2.2 id with
 | true =>
  obtain⟨a,g,rfl⟩:=oU.1 f;exact h.turn hj hj' (R:=fun e=>e=.returned (.bool true)) (fun lab hT i=>mJ hT g (by have:=hm.1;omega) hc)
 | false =>
  obtain⟨lab,hT,_⟩:=h.tab j hj hj';have b:=tE.1 f;refine(zY hT hid b).mono ?_;rintro e w'⟨rfl,rfl⟩;refine⟨rfl,O,?_,fun q k=>rfl,Tn.refl _ _⟩;rw[wG b,show((st[j].1,(st[j].2.1,st[j].2.2)):DT)=st[j]from rfl,iX hj'];exact h
theorem Dd.qr(h:Dd w d ts st O)(hj:j<ts.length)(hj':j<st.length){id:Int}(hid:lg id)(y:ByteArray)(u:T3)(hs:u.2.2.size<=maxLen)(hm:ie m st[j].2)(hm3:m<=590):Calls prog 60 #[.pointer (some ⟨st[j].1,0,none⟩),.int .i64 id,.string y,.agg #[.int .i64 u.1,.int .i64 u.2.1,.string u.2.2]] w fun e w'=>e=.returned (.int .i64 (pu ts[j] st[j].2.2 id y u))/\∃f,Dd w' d ts (st.set j (st[j].1,YtkchgbjoeggdbaaGreat.qr ts[j] st[j].2 id y u)) f/\Ext w O f/\Tn (fun q=>O q=j+2) w w':=by
 unfold YtkchgbjoeggdbaaGreat.qr;by_cases b:pu ts[j] st[j].2.2 id y u=0
 ·rw[zw b,b];obtain⟨⟨a,l,rfl⟩,k,n,g,c⟩:=CX b;rw[g,wo];exact h.turn hj hj' (R:=fun e=>e=.returned (.int .i64 0)) (fun lab hT o=>mK hT l (by have:=hm.1;omega) n g u.1 u.2.1 u.2.2 hs c)
 rw[zu b];obtain⟨lab,hT,_⟩:=h.tab j hj hj';refine(zZ hT hid y u.1 u.2.1 u.2.2 hs b).mono ?_;rintro e w'⟨rfl,i⟩;refine⟨rfl,O,?_,fun q p=>rfl,Tn.of_below i⟩;rw[show((st[j].1,st[j].2):DT)=st[j]from rfl,iX hj'];exact h.later i
theorem im.iz(h:im w b ts tt i O)(hj:j<ts.length)(hj':j<tt.length){S:Nat->Prop}{v:Value}{vals:List T3}(hv:fk S w v vals)(hS:∀q,S q->O q=0)(hm:ie m (ky tt[j]))(hm3:m<=590)(hc:ts[j].cols.length<=1000)(h0:0<ts[j].cols.length)(hs:∀x∈vals,x.2.2.size<=maxLen)(hl:vals.length<=1000000):Calls prog 58 #[.pointer (some ⟨b,0,none⟩),.int .i64 (j:Int),v] w fun e w'=>e=.returned (.tuple #[.int .i64 (li ts[j] (ky tt[j]) vals),.int .i64 (ei ts[j] vals)])/\∃tt' c,im w' b ts tt' i c/\tt'.map ky=(tt.map ky).set j (YtkchgbjoeggdbaaGreat.iz ts[j] (ky tt[j]) vals)/\Ext w O c/\Tn (fun q=>O q≠0) w w':=by
 unfold li YtkchgbjoeggdbaaGreat.iz;obtain⟨d,f⟩:=hm;have d:tt[j].nx<=m:=d;have f:tt[j].A.length<=tt[j].nx:=f;by_cases a:ei ts[j] vals=0
 ·rw[zw a,zw a,a];refine(DS h hj (z6 hj') hv hS hs hc h0 hl (by omega) (by omega) a).mono ?_;rintro e w'⟨rfl,x,c,k,l,n,o,p⟩;refine⟨rfl,_,c,k,?_,o,p⟩;rw[List.map_set]
  congr 1
  show(x.nx,x.A)=_;rw[l,n]
 rw[zu a,zu a];refine(Ds h hj (z6 hj') hv hs hc hl a).mono ?_;rintro e w'⟨rfl,g⟩;refine⟨rfl,tt,O,h.later g,?_,fun q r=>rfl,Tn.of_below g⟩;rw[show ky tt[j]=(tt.map ky)[j]'(by rw[yd];exact hj')by rw[yw],iX]
end
section
variable{K K':Nat->Prop}{W W0 w w':World}{d b:Nat}{ts us:List T}{st st':List DT}{tt tt':List RT}
theorem PS.ur(h:PS K W0 w d ts st b us tt){f:FuncId}{args:Array Value}{R:Ending->Prop}{ts':List T}{Q:List DT->Prop}(hc:∀c,Dd w d ts st c->(∀q,K q->c q=0)->Calls prog f args w fun e w'=>R e/\∃st' g,Q st'/\Dd w' d ts' st' g/\Ext w c g/\Tn (fun q=>c q≠0) w w'):Calls prog f args w fun e w'=>R e/\∃st',Q st'/\PS K W0 w' d ts' st' b us tt:=by
 obtain⟨c,l,i,t,m,n,j,o⟩:=h;refine(hc c t (fun q a=>(j q a).2.1)).mono ?_;rintro e w'⟨u,st',g,v,x,p,hT⟩;have k:∀q,l q≠0->q<w.heap.size:=m.lt;refine⟨u,st',v,g,l,i,x,m.tn hT (fun q a=>n q a),fun q a=>?_,fun q a=>?_,o.trans hT (fun _ _ h=>h) (fun q _ a y=>a (j q y).2.1)⟩
 ·refine Classical.byContradiction fun r=>?_
  have z:=k q r;rw[p q z]at a;exact r (n q a)
 obtain⟨s,A,B⟩:=j q a;exact⟨s,(p q (z9 s o.size)).trans A,B⟩
theorem PS.AK(h:PS K W0 w d ts st b us tt){f:FuncId}{args:Array Value}{R:Ending->Prop}{us':List T}{Q:List RT->Prop}(hc:∀i c,im w b us tt i c->(∀q,K q->c q=0)->Calls prog f args w fun e w'=>R e/\∃tt' j g,Q tt'/\im w' b us' tt' j g/\Ext w c g/\Tn (fun q=>c q≠0) w w'):Calls prog f args w fun e w'=>R e/\∃tt',Q tt'/\PS K W0 w' d ts st b us' tt':=by
 obtain⟨r,c,i,l,s,m,k,n⟩:=h;refine(hc i c s (fun q a=>(k q a).2.2)).mono ?_;rintro e w'⟨t,tt',j,g,u,v,o,hT⟩;refine⟨t,tt',u,r,g,j,l.tn hT (fun q a=>Classical.byContradiction fun x=>a (m q x)),v,fun q a=>?_,fun q a=>?_,n.trans hT (fun _ _ h=>h) (fun q _ a y=>a (k q y).2.2)⟩
 ·rw[o q (l.lt q a)];exact m q a
 obtain⟨p,z,A⟩:=k q a;exact⟨p,z,(o q (z9 p n.size)).trans A⟩
theorem PS.with(h:PS K W0 w d ts st b us tt)(hb:Below w.heap.size w w'):PS (fun q=>K q∨(w.heap.size<=q/\q<w'.heap.size)) w' w' d ts st b us tt:=by
 obtain⟨g,j,i,e,f,k,l,m⟩:=h;refine⟨g,j,i,e.later hb,f.later hb,k,fun q a=>?_,Tn.refl _ _⟩;rcases a with a|⟨s,n⟩
 ·obtain⟨o,p,r⟩:=l q a;exact⟨z9 (z9 o m.size) hb.size,p,r⟩
 exact⟨n,Classical.byContradiction fun c=>by have:=e.lt q c;omega,Classical.byContradiction fun c=>by have:=f.lt q c;omega⟩
theorem PS.back(h:PS K W0 w d ts st b us tt){ts' us':List T}(h2:PS K' w w' d ts' st' b us' tt')(hk:∀q,K q->K' q):PS K W0 w' d ts' st' b us' tt':=by
 obtain⟨_,_,_,_,_,_,c,e⟩:=h;obtain⟨f,g,i,j,k,l,m,n⟩:=h2;exact⟨f,g,i,j,k,l,fun q a=>⟨(c q a).1,(m q (hk q a)).2⟩,e.trans n (fun _ _ h=>h) (fun q _ o a=>o (hk q a))⟩
theorem PS.bel(h:PS K W0 w d ts st b us tt)(hb:Below W.heap.size W W0)(hk:∀q,q<W.heap.size->K q):Below W.heap.size W w:=by
 obtain⟨_,_,_,_,_,_,_,a⟩:=h;exact hb.trans (a.chg.below hb.size (fun q f c=>Classical.byContradiction fun e=>c (hk q (by omega))))
theorem PS.Ai(h:PS K W0 w d ts st b us tt):st.length=ts.length:=by obtain⟨_,_,_,a,_⟩:=h;exact a.len
theorem PS.Bo(h:PS K W0 w d ts st b us tt):tt.length=us.length:=by obtain⟨_,_,_,_,a,_⟩:=h;exact a.n
end
def PD(K:Nat->Prop)(W0 w:World)(d b:Nat)(ts:List T)(ps:List Nat)(L1 L2:List PT):Prop:=∃st tt,PS K W0 w d ts st b ts tt/\st.map (·.1)=ps/\st.map (·.2)=L1/\tt.map ky=L2
section
variable{K K':Nat->Prop}{W W0 w w':World}{d b:Nat}{ts:List T}{ps:List Nat}{L1 L2:List PT}{j m:Nat}
theorem PD.len(h:PD K W0 w d b ts ps L1 L2):ps.length=ts.length/\L1.length=ts.length/\L2.length=ts.length:=by
 obtain⟨st,tt,a,rfl,rfl,rfl⟩:=h;exact⟨by rw[yd];exact a.Ai,by rw[yd];exact a.Ai,by rw[yd];exact a.Bo⟩
theorem PD.later(h:PD K W0 w d b ts ps L1 L2)(hb:Below w.heap.size w w'):PD K W0 w' d b ts ps L1 L2:=by
 obtain⟨st,tt,a,c⟩:=h;exact⟨st,tt,a.later hb,c⟩
theorem PD.with(h:PD K W0 w d b ts ps L1 L2)(hb:Below w.heap.size w w'):PD (fun q=>K q∨(w.heap.size<=q/\q<w'.heap.size)) w' w' d b ts ps L1 L2:=by
 obtain⟨st,tt,a,c⟩:=h;exact⟨st,tt,a.with hb,c⟩
theorem PD.back(h:PD K W0 w d b ts ps L1 L2){L3 L4:List PT}(h2:PD K' w w' d b ts ps L3 L4)(hk:∀q,K q->K' q):PD K W0 w' d b ts ps L3 L4:=by
 obtain⟨st,tt,a,_⟩:=h;obtain⟨st',tt',c,e⟩:=h2;exact⟨st',tt',a.back c hk,e⟩
theorem PD.bel(h:PD K W0 w d b ts ps L1 L2)(hb:Below W.heap.size W W0)(hk:∀q,q<W.heap.size->K q):Below W.heap.size W w:=by
 obtain⟨st,tt,a,_⟩:=h;exact a.bel hb hk
theorem PD.still(h:PD K W0 w d b ts ps L1 L2){q:Nat}(hq:K q):w.heap[q]?=W0.heap[q]?:=by
 obtain⟨st,tt,a,_⟩:=h;exact a.still hq
theorem PD.dd(h:PD K W0 w d b ts ps L1 L2):∃st O,Dd w d ts st O/\st.map (·.1)=ps/\st.map (·.2)=L1:=by
 obtain⟨st,tt,⟨a,_,_,c,_⟩,e,f,_⟩:=h;exact⟨st,a,c,e,f⟩
theorem PD.dbn(h:PD K W0 w d b ts ps L1 L2):∃tt i O,im w b ts tt i O/\tt.map ky=L2:=by
 obtain⟨st,tt,⟨_,a,i,_,c,_⟩,_,_,e⟩:=h;exact⟨tt,i,a,c,e⟩
theorem PD.table(h:PD K W0 w d b ts ps L1 L2)(hj:j<ts.length)(hx:ts[j].nm.size<=maxLen)(hp:j<ps.length):Calls prog 14 #[.pointer (some ⟨d,0,none⟩),.string ts[j].nm] w fun e w'=>e=.returned (.pointer (some ⟨ps[j],0,none⟩))/\w'=w:=by
 obtain⟨st,O,a,rfl,_⟩:=h.dd;rw[yw];exact a.table hj hx (by rw[a.len];exact hj)
theorem nD{st:List DT}(hj:j<st.length)(x:PT):((st.set j (st[j].1,x)).map (·.1)=st.map (·.1))/\((st.set j (st[j].1,x)).map (·.2)=(st.map (·.2)).set j x):=by
 rw[List.map_set,List.map_set];refine⟨?_,rfl⟩;have:(st.map (·.1))[j]'(by rw[yd];exact hj)=st[j].1:=(by rw[yw]);rw[<-this];exact iX _
theorem PD.Bn(h:PD K W0 w d b ts ps L1 L2)(hj:j<ts.length)(hp:j<ps.length)(hL:j<L1.length){S:Nat->Prop}{v:Value}{vals:List T3}(hv:fk S w v vals)(hS:∀q,S q->K q)(hm:ie m L1[j])(hm3:m<=590)(hc:ts[j].cols.length<=1000)(hs:∀x∈vals,x.2.2.size<=maxLen)(hl:vals.length<=1000000):Calls prog 57 #[.pointer (some ⟨ps[j],0,none⟩),v] w fun e w'=>e=.returned (.tuple #[.int .i64 (li ts[j] L1[j] vals),.int .i64 (ei ts[j] vals)])/\PD K W0 w' d b ts ps (L1.set j (iz ts[j] L1[j] vals)) L2:=by
 obtain⟨st,tt,f,rfl,rfl,rfl⟩:=h;have a:j<st.length:=(by rw[f.Ai];exact hj);simp only[yw]at hm ⊢;refine(f.ur (ts':=ts) (R:=fun e=>e=.returned (.tuple #[.int .i64 (li ts[j] st[j].2 vals),.int .i64 (ei ts[j] vals)])) (Q:=fun st'=>st'=st.set j (st[j].1,iz ts[j] st[j].2 vals)) (fun g i k=>?_)).mono ?_
 ·refine(i.iz hj a hv (fun q c=>k q (hS q c)) hm hm3 hc hs hl).mono ?_;rintro e w'⟨rfl,l,n,o,p⟩;exact⟨rfl,_,l,rfl,n,o,p.mono (fun q _ c=>by have c:g q=j+2:=c;show g q≠0;omega)⟩
 rintro e w'⟨rfl,st',rfl,r⟩;obtain⟨s,t⟩:=nD a (iz ts[j] st[j].2 vals);exact⟨rfl,_,tt,r,s,t,rfl⟩
theorem PD.BG(h:PD K W0 w d b ts ps L1 L2)(hj:j<ts.length)(hp:j<ps.length)(hL:j<L1.length){id:Int}(hid:lg id)(hm:ie m L1[j])(hm3:m<=590)(hc:ts[j].cols.length<=1000):Calls prog 24 #[.pointer (some ⟨ps[j],0,none⟩),.int .i64 id] w fun e w'=>e=.returned (.bool (di L1[j].2 id))/\PD K W0 w' d b ts ps (L1.set j (nw L1[j] id)) L2:=by
 obtain⟨st,tt,c,rfl,rfl,rfl⟩:=h;have a:j<st.length:=(by rw[c.Ai];exact hj);simp only[yw]at hm ⊢;refine(c.ur (ts':=ts) (R:=fun e=>e=.returned (.bool (di st[j].2.2 id))) (Q:=fun st'=>st'=st.set j (st[j].1,nw st[j].2 id)) (fun f i t=>?_)).mono ?_
 ·refine(i.nw hj a hid hm hm3 hc).mono ?_;rintro e w'⟨rfl,k,l,n,o⟩;exact⟨rfl,_,k,rfl,l,n,o.mono (fun q _ g=>by have g:f q=j+2:=g;show f q≠0;omega)⟩
 rintro e w'⟨rfl,st',rfl,p⟩;obtain⟨r,s⟩:=nD a (nw st[j].2 id);exact⟨rfl,_,tt,p,r,s,rfl⟩
theorem PD.li(h:PD K W0 w d b ts ps L1 L2)(hj:j<ts.length)(hL:j<L2.length){S:Nat->Prop}{v:Value}{vals:List T3}(hv:fk S w v vals)(hS:∀q,S q->K q)(hm:ie m L2[j])(hm3:m<=590)(hc:ts[j].cols.length<=1000)(h0:0<ts[j].cols.length)(hs:∀x∈vals,x.2.2.size<=maxLen)(hl:vals.length<=1000000):Calls prog 58 #[.pointer (some ⟨b,0,none⟩),.int .i64 (j:Int),v] w fun e w'=>e=.returned (.tuple #[.int .i64 (YtkchgbjoeggdbaaGreat.li ts[j] L2[j] vals),.int .i64 (ei ts[j] vals)])/\PD K W0 w' d b ts ps L1 (L2.set j (iz ts[j] L2[j] vals)):=by
 obtain⟨st,tt,c,rfl,rfl,rfl⟩:=h;have a:j<tt.length:=(by rw[c.Bo];exact hj);simp only[yw]at hm ⊢;refine(c.AK (us':=ts) (R:=fun e=>e=.returned (.tuple #[.int .i64 (YtkchgbjoeggdbaaGreat.li ts[j] (ky tt[j]) vals),.int .i64 (ei ts[j] vals)])) (Q:=fun tt'=>tt'.map ky=(tt.map ky).set j (iz ts[j] (ky tt[j]) vals)) (fun i u f g=>?_)).mono ?_
 ·refine(f.iz hj a hv (fun q k=>g q (hS q k)) hm hm3 hc h0 hs hl).mono ?_;rintro e w'⟨rfl,tt',l,n,o,p,r⟩;exact⟨rfl,tt',i,l,o,n,p,r⟩
 rintro e w'⟨rfl,tt',s,t⟩;exact⟨rfl,st,tt',t,rfl,rfl,s⟩
end
theorem iY(W:World):Calls prog 20 #[] W fun e w'=>∃d b ps,e=.returned (.tuple #[.pointer (some ⟨d,0,none⟩),.pointer (some ⟨b,0,none⟩)])/\PD (fun q=>q<W.heap.size) W w' d b (pre 4) ps (List.replicate 4 (0,[])) (List.replicate 4 (0,[])):=by
 refine(wF W).mono ?_;rintro e w'⟨rfl,K,s,st,g,f,⟨j,k,i,l,m,n,o,p⟩,c⟩;refine⟨_,_,st.map (·.1),rfl,st,List.replicate 4 uo,⟨j,k,i,l,m,n,fun q a=>⟨a,(o q (f q a)).2⟩,(Tn.of_below (S:=fun _=>False) g).trans p (fun _ _ h=>h.elim) (fun q _ r a=>r (f q a))⟩,rfl,c,rfl⟩
end Go.Proofs.YtkchgbjoeggdbaaGreat
namespace Go.Proofs.YtkchgbjoeggdbaaGreat
open Go.Proofs.Tryz
open Go Go.RowKit Go.Proofs Co Co.S Par
theorem fk.lit{w:World}{g:Nat}{l:List T3}{cs:Array Value}(h:w.heap[g]?=some (.cells cs 32))(hcs:cs.toList=cells3 l)(hl:l.length<=maxLen):fk (fun q=>q=g) w (.slice (some ⟨g,0,none⟩) l.length l.length) l:=by
 refine⟨_,_,rfl,zo _,hl,fun _=>⟨g,0,rfl,aB h,rfl,fun j u a=>?_⟩⟩
 have:=aA h j
 rw[xj,this,<-a,<-hcs,Array.getElem?_toList]
theorem Wd.lits{w:World}{g:Nat}{l:List ByteArray}{cs:Array Value}(h:w.heap[g]?=some (.cells cs 9))(hcs:cs.toList=l.map Value.string)(hl:l.length<=maxLen):Wd w (.slice (some ⟨g,0,none⟩) l.length l.length) l:=by
 refine⟨_,_,rfl,zo _,hl,fun a h=>(by cases h;rfl),fun _=>⟨g,0,cs,(0,0),rfl,h,fun j b=>?_⟩⟩;rw[xj,<-Array.getElem?_toList,hcs,xe,z6 b];rfl
structure JI (K:Nat->Prop) (W0 wS:World) (d b:Nat) (ts:List T) (ps:List Nat) (L1 L2:List PT) (E:Nat->Value) (iS iI:Nat) (vals:List T3) (l:Nat->Bool) (vs:Nat->Value) (w:World):Prop where
 ev:∀j,j≠iS->l j=true->vs j=E j
 pre:l iI=false->Below wS.heap.size wS w
 row:l iI=false->l iS=true->∃g,vs iS=.slice (some ⟨g,0,none⟩) vals.length vals.length/\w.heap[g]?=some (.cells (cells3 vals).toArray 32)/\wS.heap.size<=g
 post:l iI=true->PD K W0 w d b ts ps L1 L2
section
variable{K:Nat->Prop}{W0 wS w w':World}{d b:Nat}{ts:List T}{ps:List Nat}{L1 L2:List PT}{E:Nat->Value}{iS iI:Nat}{vals:List T3}{l:Nat->Bool}{vs:Nat->Value}
theorem JI.up(h:JI K W0 wS d b ts ps L1 L2 E iS iI vals l vs w)(i:Nat)(h1:i≠iS)(h2:i≠iI):JI K W0 wS d b ts ps L1 L2 E iS iI vals (fg l i) (ef vs i (E i)) w:=by
 refine⟨fun j f a=>?_,fun a=>h.pre ?_,fun a c=>?_,fun a=>h.post ?_⟩
 ·by_cases e:j=i
  ·subst e;rw[bI]
  rw[aO e];rw[aL e]at a;exact h.ev j f a
 ·rwa [aL (fun e=>h2 e.symm)]at a
 ·rw[aO (fun e=>h1 e.symm)];exact h.row (by rwa [aL (fun e=>h2 e.symm)]at a) (by rwa [aL (fun e=>h1 e.symm)]at c)
 rwa [aL (fun e=>h2 e.symm)]at a
theorem JI.new(h:JI K W0 wS d b ts ps L1 L2 E iS iI vals l vs w)(hI:l iI=false)(hne:iS≠iI){cs:Array Value}(hcs:cs=(cells3 vals).toArray){n:Nat}(hn:n=vals.length):JI K W0 wS d b ts ps L1 L2 E iS iI vals (fg l iS) (ef vs iS (.slice (some ⟨w.heap.size,0,none⟩) n n)) (w.alloc (.cells cs 32)):=by
 subst hcs hn;refine⟨fun j c a=>?_,fun _=>aC (h.pre hI) (aD w _),fun _ _=>⟨w.heap.size,bI,z7 w _,(h.pre hI).size⟩,fun a=>?_⟩
 ·rw[aO c];rw[aL c]at a;exact h.ev j c a
 rw[aL (fun e=>hne e.symm),hI]at a;cases a
theorem JI.put(h:JI K W0 wS d b ts ps L1 L2 E iS iI vals l vs w)(hne:iI≠iS)(hP:PD K W0 w' d b ts ps L1 L2):JI K W0 wS d b ts ps L1 L2 E iS iI vals (fg l iI) (ef vs iI (E iI)) w':=by
 refine⟨fun j c a=>?_,fun a=>?_,fun a=>?_,fun _=>hP⟩
 ·by_cases e:j=iI
  ·subst e;rw[bI]
  rw[aO e];rw[aL e]at a;exact h.ev j c a
 ·rw[cJ]at a;cases a
 rw[cJ]at a;cases a
theorem oY{L0:List PT}{j m:Nat}(h:PD K W0 wS d b ts ps L0 L2)(hb:Below wS.heap.size wS w)(hj:j<ts.length)(hp:j<ps.length)(hL:j<L0.length){g:Nat}(hg:w.heap[g]?=some (.cells (cells3 vals).toArray 32))(hgS:wS.heap.size<=g)(hm:ie m L0[j])(hm3:m<=590)(hc:ts[j].cols.length<=1000)(hs:∀x∈vals,x.2.2.size<=maxLen)(hl:vals.length<=1000):Calls prog 57 #[.pointer (some ⟨ps[j],0,none⟩),.slice (some ⟨g,0,none⟩) vals.length vals.length] w fun e w'=>e=.returned (.tuple #[.int .i64 (li ts[j] L0[j] vals),.int .i64 (ei ts[j] vals)])/\PD K W0 w' d b ts ps (L0.set j (iz ts[j] L0[j] vals)) L2:=by
 have c:=h.with hb;refine(c.Bn hj hp hL (fk.lit hg rfl (by unfold maxLen;omega)) (fun q(a:q=g)=>.inr ⟨by omega,by rw[a];exact aB hg⟩) hm hm3 hc hs (by omega)).mono ?_;rintro e w'⟨rfl,f⟩;exact⟨rfl,(h.later hb).back f (fun q a=>.inl a)⟩
end
section
variable{K:Nat->Prop}{W0 w:World}{d b:Nat}{ts:List T}{ps:List Nat}{L1 L2:List PT}
abbrev da(L:List PT):List (List R1):=L.map (·.2)
theorem gS{st:List DT}{L:List PT}(h:st.map (·.2)=L):rowsOf st=da L:=by
 subst h;show st.map _=(st.map _).map _;rw[List.map_map];rfl
theorem PD.value(h:PD K W0 w d b ts ps L1 L2)(hi:ls ts)(hfew:bs ts)(hsz:Short ts){v:Value}(x:ByteArray){id:Int}{p:List ByteArray}(hid:lg id)(hp:Wd w v p):Calls prog 17 #[.pointer (some ⟨d,0,none⟩),.string x,.int .i64 id,v] w fun e w'=>e=.returned (.tuple #[.agg #[.int .i64 ((ay ts (da L1) x id p).1.1),.int .i64 ((ay ts (da L1) x id p).1.2.1),.string ((ay ts (da L1) x id p).1.2.2)],.bool (ay ts (da L1) x id p).2])/\Below w.heap.size w w':=by
 obtain⟨st,O,a,_,c⟩:=h.dd;rw[<-gS c];exact nB a hi hfew hsz x hid hp
theorem PD.bykey(h:PD K W0 w d b ts ps L1 L2)(hi:ls ts)(hfew:bs ts)(hsz:Short ts)(x:ByteArray)(u:T3):Calls prog 47 #[.pointer (some ⟨d,0,none⟩),.string x,.agg #[.int .i64 u.1,.int .i64 u.2.1,.string u.2.2]] w fun e w'=>e=.returned (.tuple #[.int .i64 ((bi ts (da L1) x u).getD 0),.bool (bi ts (da L1) x u).isSome])/\Below w.heap.size w w':=by
 obtain⟨st,O,a,_,c⟩:=h.dd;rw[<-gS c];exact gR a hi hfew hsz x u
end
theorem aM:Short (pre 4):=by
 intro t a;have h:∀t∈pre 4,t.nm.size<=12:=(by decide);exact zx (h t a) (by unfold maxLen;omega)
theorem yM:∀t∈pre 4,∀c∈t.cols,c.kd=1∨c.kd=2:=by decide
theorem gT:∀t∈pre 4,0<t.cols.length/\t.cols.length<=4:=by decide
structure JR (W:World) (A:List R1) (E:Nat->Value) (l:Nat->Bool) (vs:Nat->Value) (w:World):Prop where
 bel:Below W.heap.size W w
 ev:∀j,j≠4->l j=true->vs j=E j
 v4:l 4=true->∃p n c,vs 4=.agg #[.slice p n c]/\Vm w (.slice p n c) (oi A)
section
variable{W w w':World}{A:List R1}{E:Nat->Value}{l:Nat->Bool}{vs:Nat->Value}
theorem jS{v:Value}(hv:Vm w v (oi A))(hs:A.Pairwise (fun a b=>a.1<b.1)):Calls prog 9 #[.agg #[v]] w fun e g=>e=.returned (.int .i64 (A.length:Int))/\Below w.heap.size w g:=by
 have c:=Ca hv;obtain⟨l,_,d,f⟩:=hv;rw[<-f.els d,fR d f hs,yd]at c;exact c
end
end Go.Proofs.YtkchgbjoeggdbaaGreat
namespace Go.Proofs.YtkchgbjoeggdbaaGreat
open Go.Proofs.Tryz
open Go Go.RowKit Go.Proofs Co Co.S
structure Own (D:World->List PT->(Nat->Nat)->Prop):Prop where
 tn:∀{w w':World} {L:List PT} {O:Nat->Nat} {S:Nat->Prop},D w L O->Tn S w w'->(∀q,S q->O q=0)->D w' L O
 lt:∀{w:World} {L:List PT} {O:Nat->Nat} {q:Nat},D w L O->O q≠0->q<w.heap.size
def PX(D:World->List PT->(Nat->Nat)->Prop)(K:Nat->Prop)(W0 w:World)(L:List PT):Prop:=Own D/\∃O,D w L O/\(∀q,K q->q<W0.heap.size/\O q=0)/\Tn (fun q=>¬ K q) W0 w
def DA(d:Nat)(ts:List T)(ps:List Nat):World->List PT->(Nat->Nat)->Prop:=fun w L O=>∃st,Dd w d ts st O/\st.map (·.1)=ps/\st.map (·.2)=L
def DN(b:Nat)(ts:List T):World->List PT->(Nat->Nat)->Prop:=fun w L O=>∃tt i,im w b ts tt i O/\tt.map ky=L
section
variable{D:World->List PT->(Nat->Nat)->Prop}{K K' S:Nat->Prop}{W W0 w w':World}{d b j m:Nat}{ts:List T}{ps:List Nat}{L L':List PT}
theorem Ck:Own (DA d ts ps):=⟨fun⟨st,h,e⟩ hk hs=>⟨st,h.tn hk hs,e⟩,fun⟨_,h,_⟩ hq=>h.lt _ hq⟩
theorem PX.later(h:PX D K W0 w L)(hb:Below w.heap.size w w'):PX D K W0 w' L:=by
 obtain⟨a,O,b,c,d⟩:=h;exact⟨a,O,a.tn b (Tn.of_below (S:=fun _=>False) hb) (fun _ h=>h.elim),c,d.trans (Tn.of_below (S:=fun _=>False) hb) (fun _ _ h=>h) (fun _ _ h=>h.elim)⟩
theorem PX.with(h:PX D K W0 w L)(hb:Below w.heap.size w w'):PX D (fun q=>K q∨(w.heap.size<=q/\q<w'.heap.size)) w' w' L:=by
 obtain⟨b,O,c,d,e⟩:=h;refine⟨b,O,b.tn c (Tn.of_below (S:=fun _=>False) hb) (fun _ h=>h.elim),fun q a=>?_,Tn.refl _ _⟩;rcases a with a|⟨i,f⟩
 ·exact⟨z9 (z9 (d q a).1 e.size) hb.size,(d q a).2⟩
 exact⟨f,Classical.byContradiction fun g=>by have:=b.lt c g;omega⟩
theorem PX.back(h:PX D K W0 w L)(h2:PX D K' w w' L')(hk:∀q,K q->K' q):PX D K W0 w' L':=by
 obtain⟨_,_,_,b,c⟩:=h;obtain⟨d,O,e,f,g⟩:=h2;exact⟨d,O,e,fun q a=>⟨(b q a).1,(f q (hk q a)).2⟩,c.trans g (fun _ _ h=>h) (fun q _ i a=>i (hk q a))⟩
theorem PX.bel(h:PX D K W0 w L)(hb:Below W.heap.size W W0)(hk:∀q,q<W.heap.size->K q):Below W.heap.size W w:=by
 obtain⟨_,_,_,_,a⟩:=h;exact hb.trans (a.chg.below hb.size (fun q d b=>Classical.byContradiction fun c=>b (hk q (by omega))))
theorem PX.still(h:PX D K W0 w L){q:Nat}(hq:K q):w.heap[q]?=W0.heap[q]?:=by
 obtain⟨_,_,_,a,b⟩:=h;exact b.chg.block q (a q hq).1 (fun c=>c hq)
theorem PX.klt(h:PX D K W0 w L){q:Nat}(hq:K q):q<W0.heap.size:=by
 obtain⟨_,_,_,a,_⟩:=h;exact(a q hq).1
theorem PX.szle(h:PX D K W0 w L):W0.heap.size<=w.heap.size:=by
 obtain⟨_,_,_,_,a⟩:=h;exact a.size
theorem PX.Bs(h:PX D K w w L)(hT:Tn S w w')(hS:∀q,q<w.heap.size->S q->K q):PX D (fun q=>K q∨(w.heap.size<=q/\q<w'.heap.size)) w' w' L/\PX D (fun q=>K q/\¬ S q) w w' L:=by
 obtain⟨b,O,e,c,j⟩:=h;have f:=b.tn e (hT.mono (T1:=fun q=>S q/\q<w.heap.size) (fun q g a=>⟨a,g⟩)) (fun q a=>(c q (hS q a.2 a.1)).2);have k:=hT.size;refine⟨⟨b,O,f,fun q a=>?_,Tn.refl _ _⟩,b,O,f,fun q a=>c q a.1,hT.mono (fun q g a d=>d.2 a)⟩;rcases a with a|⟨l,i⟩
 ·exact⟨by have:=(c q a).1;omega,(c q a).2⟩
 exact⟨i,Classical.byContradiction fun d=>by have:=b.lt e d;omega⟩
theorem PX.turn(h:PX D K W0 w L){f:FuncId}{args:Array Value}{R:Ending->Prop}(hc:∀O,D w L O->(∀q,K q->O q=0)->Calls prog f args w fun e w'=>R e/\∃c,D w' L' c/\Ext w O c/\Tn (fun q=>O q≠0) w w'):Calls prog f args w fun e w'=>R e/\PX D K W0 w' L':=by
 obtain⟨g,O,i,b,d⟩:=h;refine(hc O i (fun q a=>(b q a).2)).mono ?_;rintro e w'⟨j,c,k,l,hT⟩;exact⟨j,g,c,k,fun q a=>⟨(b q a).1,(l q (z9 (b q a).1 d.size)).trans (b q a).2⟩,d.trans hT (fun _ _ h=>h) (fun q _ a m=>a (b q m).2)⟩
theorem PX.A0(h:PX (DA d ts ps) K W0 w L):ps.length=ts.length/\L.length=ts.length:=by
 obtain⟨_,O,⟨st,a,rfl,rfl⟩,_⟩:=h;exact⟨by rw[yd];exact a.len,by rw[yd];exact a.len⟩
theorem PX.table(h:PX (DA d ts ps) K W0 w L)(hj:j<ts.length)(hx:ts[j].nm.size<=maxLen)(hp:j<ps.length):Calls prog 14 #[.pointer (some ⟨d,0,none⟩),.string ts[j].nm] w fun e w'=>e=.returned (.pointer (some ⟨ps[j],0,none⟩))/\w'=w:=by
 obtain⟨_,O,⟨st,a,rfl,rfl⟩,_⟩:=h;rw[yw];exact a.table hj hx (by rw[a.len];exact hj)
theorem PX.BL(h:PX (DA d ts ps) K W0 w L)(hj:j<ts.length)(hp:j<ps.length)(hL:j<L.length){v:Value}{vals:List T3}(hv:fk S w v vals)(hS:∀q,S q->K q)(hm:ie m L[j])(hm3:m<=590)(hc:ts[j].cols.length<=1000)(hs:∀x∈vals,x.2.2.size<=maxLen)(hl:vals.length<=1000000):Calls prog 57 #[.pointer (some ⟨ps[j],0,none⟩),v] w fun e w'=>e=.returned (.tuple #[.int .i64 (li ts[j] L[j] vals),.int .i64 (ei ts[j] vals)])/\PX (DA d ts ps) K W0 w' (L.set j (iz ts[j] L[j] vals)):=by
 refine h.turn (R:=fun e=>e=.returned (.tuple #[.int .i64 (li ts[j] L[j] vals),.int .i64 (ei ts[j] vals)])) (fun O b f=>?_);clear h;obtain⟨st,b,rfl,rfl⟩:=b;have a:j<st.length:=(by rw[b.len];exact hj);simp only[yw]at hm ⊢;refine(b.iz hj a hv (fun q c=>f q (hS q c)) hm hm3 hc hs hl).mono ?_;rintro e w'⟨rfl,g,i,k,l⟩;obtain⟨n,o⟩:=nD a (iz ts[j] st[j].2 vals);exact⟨rfl,g,⟨_,i,n,o⟩,k,l.mono (fun q _ c=>by have c:O q=j+2:=c;show O q≠0;omega)⟩
theorem PX.Bz(h:PX (DA d ts ps) K W0 w L)(hj:j<ts.length)(hp:j<ps.length)(hL:j<L.length){id:Int}(hid:lg id)(hm:ie m L[j])(hm3:m<=590)(hc:ts[j].cols.length<=1000):Calls prog 24 #[.pointer (some ⟨ps[j],0,none⟩),.int .i64 id] w fun e w'=>e=.returned (.bool (di L[j].2 id))/\PX (DA d ts ps) K W0 w' (L.set j (nw L[j] id)):=by
 refine h.turn (R:=fun e=>e=.returned (.bool (di L[j].2 id))) (fun O b o=>?_);clear h;obtain⟨st,b,rfl,rfl⟩:=b;have a:j<st.length:=(by rw[b.len];exact hj);simp only[yw]at hm ⊢;refine(b.nw hj a hid hm hm3 hc).mono ?_;rintro e w'⟨rfl,f,g,i,k⟩;obtain⟨l,n⟩:=nD a (nw st[j].2 id);exact⟨rfl,f,⟨_,g,l,n⟩,i,k.mono (fun q _ c=>by have c:O q=j+2:=c;show O q≠0;omega)⟩
theorem PX.ph(h:PX (DA d ts ps) K W0 w L)(hj:j<ts.length)(hp:j<ps.length)(hL:j<L.length){id:Int}(hid:lg id)(y:ByteArray)(u:T3)(hs:u.2.2.size<=maxLen)(hm:ie m L[j])(hm3:m<=590):Calls prog 60 #[.pointer (some ⟨ps[j],0,none⟩),.int .i64 id,.string y,.agg #[.int .i64 u.1,.int .i64 u.2.1,.string u.2.2]] w fun e w'=>e=.returned (.int .i64 (pu ts[j] L[j].2 id y u))/\PX (DA d ts ps) K W0 w' (L.set j (qr ts[j] L[j] id y u)):=by
 refine h.turn (R:=fun e=>e=.returned (.int .i64 (pu ts[j] L[j].2 id y u))) (fun O b o=>?_);clear h;obtain⟨st,b,rfl,rfl⟩:=b;have a:j<st.length:=(by rw[b.len];exact hj);simp only[yw]at hm ⊢;refine(b.qr hj a hid y u hs hm hm3).mono ?_;rintro e w'⟨rfl,f,g,i,k⟩;obtain⟨l,n⟩:=nD a (qr ts[j] st[j].2 id y u);exact⟨rfl,f,⟨_,g,l,n⟩,i,k.mono (fun q _ c=>by have c:O q=j+2:=c;show O q≠0;omega)⟩
end
structure IN (W w:World) (O:Nat) (ts:List T) (tt:List RT) (fs:List (Value×Value)) (sv ov nv:Value) (lab:Nat->Nat) (cs:List RT):Prop where
 bl:Below W.heap.size W w
 lo:∀q,lab q≠0->W.heap.size<=q/\q<w.heap.size
 box:w.heap[O]?=some (.cells #[sv,ov,nv] 125)
 form:ac w 0 60 4 sv ts.length (fp fs ts)
 nxs:ac w 0 3 1 nv ts.length (tt.map fun x=>.int .i64 (x.nx:Int))
 outer:ac w 0 159 1 ov cs.length (cs.map (·.rv))
 tab:∀j (h:j<ts.length) (h':j<cs.length),qd w ts[j] cs[j] lab j
 key:cs.map ky=(tt.take cs.length).map ky
 o1:lab O=1
 o2:∀q,sv.ownBlock=some q->lab q=2
 o3:∀q,ov.ownBlock=some q->lab q=3
 o4:∀q,nv.ownBlock=some q->lab q=4
section
variable{W w w':World}{O:Nat}{ts:List T}{tt cs:List RT}{fs:List (Value×Value)}{sv ov nv lv:Value}{lab lab':Nat->Nat}{S:Nat->Prop}
end
structure KJ (W0:World) (E:Nat->Value) (rv:Value) (n:Nat) (xs:List Value) (id:Int) (vals:List T3) (l:Nat->Bool) (vs:Nat->Value) (w:World):Prop where
 gb:W0.grownBy w rv.ownBlock
 f0:l 26=false->Below W0.heap.size W0 w
 ev:∀j,j<23->l j=true->vs j=E j
 f23:l 23=true->∃g c,vs 23=.slice (some ⟨g,0,none⟩) vals.length c/\ac w 0 32 3 (.slice (some ⟨g,0,none⟩) vals.length c) vals.length (cells3 vals)/\W0.heap.size<=g
 f24:l 24=true->vs 24=.agg #[.int .i64 id,vs 23]
 f25:l 25=true->l 26=false->∃y,w=y.alloc (.cells #[.int .i64 id,vs 23] 161)/\vs 25=.slice (some ⟨y.heap.size,0,none⟩) 1 1/\Below W0.heap.size W0 y/\∀q,(vs 23).ownBlock=some q->q<y.heap.size
 f26:l 26=true->∃g cap,vs 26=.slice (some ⟨g,0,none⟩) (n+1) cap/\ac w 0 161 2 (.slice (some ⟨g,0,none⟩) (n+1) cap) (n+1) (xs++[.int .i64 id,vs 23])/\(rv.ownBlock=some g∨W0.heap.size<=g)/\∀q,(vs 23).ownBlock=some q->q≠g
section
open Par
variable{W0 w w':World}{E:Nat->Value}{rv:Value}{n:Nat}{xs:List Value}{id:Int}{vals:List T3}{l:Nat->Bool}{vs:Nat->Value}
end
structure RJ (W:World) (E:Nat->Value) (n:Nat) (xs ys:List Value) (l:Nat->Bool) (vs:Nat->Value) (w:World):Prop where
 bl:Below W.heap.size W w
 ev:∀j,j≠4->j≠9->j≠10->l j=true->vs j=E j
 f4:l 4=true->ac w W.heap.size 60 4 (vs 4) n xs
 f9:l 9=true->ac w W.heap.size 3 1 (vs 9) n ys
 f10:l 10=true->vs 10=.agg #[vs 4,.slice none 0 0,vs 9]
section
open Par
variable{W w w':World}{E:Nat->Value}{n:Nat}{xs ys:List Value}{l:Nat->Bool}{vs:Nat->Value}
end
