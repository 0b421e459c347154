import Derived.Test.YtkchgbjoeggdbaaGreatZn49
set_option maxHeartbeats 8000000
set_option maxRecDepth 100000
namespace Go.Proofs.YtkchgbjoeggdbaaGreat
open Go.Proofs.Tryz
open Go Go.RowKit Go.Proofs Co Co.S
section
variable{ts:List T}
end
section
variable{W w w1:World}{K:Nat->Prop}{W0:World}{d b m:Nat}{ps:List Nat}{L1 L2:List PT}{tv:Value}{ops:List jt}
theorem wZ(h:PD K W0 w d b (pre 4) ps L1 L2)(hb:Below w.heap.size w w1)(ho:qv w1 w.heap.size tv ops)(hok:∀o∈ops,nh o)(g:∀x∈L1,ie m x)(hm:m+ops.length<=590):Calls prog 129 #[.pointer (some ⟨d,0,none⟩),tv] w1 fun e w'=>∃p n c a,e=.returned (.tuple #[.slice p n c,dr (ap (pre 4) L1 ops).err (ap (pre 4) L1 ops).place (ap (pre 4) L1 ops).tbl 0 e0])/\n=(ap (pre 4) L1 ops).ids.length/\(∀q,(K q∨(w.heap.size<=q/\q<w1.heap.size))->a q/\w'.heap[q]?=w1.heap[q]?)/\Ro w' 0 (.slice p n c) (ap (pre 4) L1 ops).ids/\(∀q,(Value.slice p n c).ownBlock=some q->a q)/\kw a w' tv ops/\PD a w' w' d b (pre 4) ps (ap (pre 4) L1 ops).rows L2/\PD K W0 w' d b (pre 4) ps (ap (pre 4) L1 ops).rows L2:=by
 have r:=h.with hb;have j:kw (fun q=>K q∨(w.heap.size<=q/\q<w1.heap.size)) w1 tv ops:=kw.of ho (fun q g s=>.inr ⟨g,s⟩);refine(Ez r j (bN 4) aM gV g hm hok).mono ?_;rintro e w'⟨t,a,rfl,k,l,u,v,i⟩;obtain⟨p,c,rfl,_,_⟩:=ac.isslice l;exact⟨p,_,c,a,rfl,rfl,fun q f=>⟨k q f,i.still f⟩,l,u,j.move k (fun q f=>i.still f),v,(h.later hb).back i (fun q f=>.inl f)⟩
theorem fI(h:PD K W0 w d b (pre 4) ps L1 L2)(hb:Below w.heap.size w w1)(ho:qv w1 w.heap.size tv ops)(hok:∀o∈ops,nh o)(h1:∀x∈L1,ie m x)(hm:m+ops.length<=590){R:List PT}{I:List Int}{er pl:Int}{t:ByteArray}{n:Nat}(hout:ap (pre 4) L1 ops=⟨R,I,er,pl,t⟩)(hn:I.length=n):Calls prog 129 #[.pointer (some ⟨d,0,none⟩),tv] w1 fun e w'=>∃p c a,e=.returned (.tuple #[.slice p n c,dr er pl t 0 e0])/\(∀q,(K q∨(w.heap.size<=q/\q<w1.heap.size))->a q/\w'.heap[q]?=w1.heap[q]?)/\Ro w' 0 (.slice p n c) I/\(∀q,(Value.slice p n c).ownBlock=some q->a q)/\PD a w' w' d b (pre 4) ps R L2/\PD K W0 w' d b (pre 4) ps R L2:=by
 have:=wZ h hb ho hok h1 hm
 rw[hout]at this;refine this.mono ?_;rintro e w'⟨p,g,c,a,rfl,f,i,j,k,_,l,r⟩;have e:g=n:=f.trans hn;subst e;exact⟨p,c,a,rfl,i,j,k,l,r⟩
end
abbrev x9:List jt:=[⟨1,an,0,e0,[(1,5,e0),(2,0,sA)]⟩,⟨3,an,0,de,[(2,0,sB)]⟩]
abbrev wl:List jt:=[⟨2,an,0,e0,[]⟩,⟨2,an,0,e0,[]⟩]
abbrev BK:List PT:=[(1,[(0,[(1,5,e0),(2,0,sB)])]),(0,[]),(0,[]),(0,[])]
abbrev Bv:List PT:=[(1,[]),(0,[]),(0,[]),(0,[])]
theorem FS:ap (pre 4) Lz x9=⟨BK,[0],0,0,e0⟩:=by kernel_rfl
theorem IE:ap (pre 4) BK wl=⟨Bv,[],6,1,an⟩:=by kernel_rfl
theorem Ep:ap (pre 4) Bv []=⟨Bv,[],5,0,e0⟩:=by kernel_rfl
theorem DY:∀x∈BK,ie 1 x:=fun x a=>by
 have h:x=(1,[(0,[(1,5,e0),(2,0,sB)])])∨x=(0,[]):=(by simpa using a);rcases h with rfl|rfl
 ·exact⟨by decide,by decide⟩
 ·exact⟨by decide,by decide⟩
theorem Fc:∀x∈Bv,ie 1 x:=fun x a=>by
 have h:x=(1,[])∨x=(0,[]):=(by simpa using a);rcases h with rfl|rfl
 ·exact⟨by decide,by decide⟩
 ·exact⟨by decide,by decide⟩
theorem Hi:∀o∈x9,nh o:=fun o a=>by
 have h:o=⟨1,an,0,e0,[(1,5,e0),(2,0,sA)]⟩∨o=⟨3,an,0,de,[(2,0,sB)]⟩:=(by simpa using a);rcases h with rfl|rfl
 ·exact eS (by decide) (by decide) (by decide) (by decide)
 ·exact eS (by decide) (by decide) (by decide) (by decide)
theorem Gr:∀o∈wl,nh o:=fun o a=>by
 have h:o=⟨2,an,0,e0,[]⟩:=(by simpa using a);rcases h with rfl;exact eS (by decide) (by decide) (by decide) (by decide)
abbrev Bq:Array Value:=#[.int .i64 1,.int .i64 5,.string e0,.int .i64 2,.int .i64 0,.string sA]
abbrev se:Array Value:=#[.int .i64 2,.int .i64 0,.string sB]
abbrev Bp(g1 g2:Nat):Array Value:=#[.int .i64 1,.string an,.int .i64 0,.string e0,.slice (some ⟨g1,0,none⟩) 2 2,.int .i64 3,.string an,.int .i64 0,.string de,.slice (some ⟨g2,0,none⟩) 1 1]
abbrev AU:Array Value:=#[.int .i64 2,.string an,.int .i64 0,.string e0,.slice none 0 0,.int .i64 2,.string an,.int .i64 0,.string e0,.slice none 0 0]
section
variable{W w w1 w3 w4:World}{K:Nat->Prop}{W0:World}{d b m:Nat}{ps:List Nat}{L1 L2:List PT}
theorem CF(h3:Below w.heap.size w w3)(h4:Below (w3.alloc (.cells Bq 32)).heap.size (w3.alloc (.cells Bq 32)) w4):Below w.heap.size w ((w4.alloc (.cells se 32)).alloc (.cells (Bp w3.heap.size w4.heap.size) 73))/\qv ((w4.alloc (.cells se 32)).alloc (.cells (Bp w3.heap.size w4.heap.size) 73)) w.heap.size (.slice (some ⟨w4.heap.size+1,0,none⟩) 2 2) x9:=by
 have g:=aC h3 (aD w3 (.cells Bq 32));have a:=z7 w3 (.cells Bq 32);have d:=aC g h4;have a:=aE h4 a;have e:=aD w4 (.cells se 32);have b:=z7 w4 (.cells se 32);have c:=aD (w4.alloc (.cells se 32)) (.cells (Bp w3.heap.size w4.heap.size) 73);have f:=z7 (w4.alloc (.cells se 32)) (.cells (Bp w3.heap.size w4.heap.size) 73);have a:=aE c (aE e a);have b:=aE c b;have h:(w4.alloc (.cells se 32)).heap.size=w4.heap.size+1:=zm _ _;have l3:=h3.size;have l4:=d.size;rw[h]at f;refine⟨aC (aC d e) c,nP (v1:=.slice (some ⟨w3.heap.size,0,none⟩) 2 2) (v2:=.slice (some ⟨w4.heap.size,0,none⟩) 1 1) f rfl (by omega) ?_ ?_⟩
 ·exact ac.lit a rfl rfl l3 (by unfold maxLen;decide)
 exact ac.lit b rfl rfl l4 (by unfold maxLen;decide)
theorem Ew(v:Array Value):Below w.heap.size w ((w.alloc (.cells v 173)).alloc (.cells AU 73))/\qv ((w.alloc (.cells v 173)).alloc (.cells AU 73)) w.heap.size (.slice (some ⟨w.heap.size+1,0,none⟩) 2 2) wl/\((w.alloc (.cells v 173)).alloc (.cells AU 73)).heap[w.heap.size]?=some (.cells v 173):=by
 have b1:=aD w (.cells v 173);have b:=z7 w (.cells v 173);have b2:=aD (w.alloc (.cells v 173)) (.cells AU 73);have a:=z7 (w.alloc (.cells v 173)) (.cells AU 73);rw[zm]at a;exact⟨aC b1 b2,nP (v1:=.slice none 0 0) (v2:=.slice none 0 0) a rfl (by omega) ac.nil ac.nil,aE b2 b⟩
end
theorem uF(W:World):Calls prog 131 #[] W fun e w'=>e=.returned (.bool true)/\Below W.heap.size W w':=by
 have i:=iY W;go_enter func131,ntmps131;go_upto_region 2 with (go_at_call 20;(with_reducible refine i.mono ?_);rintro e w1⟨d,b,ps,rfl,hP⟩;clear i)
 obtain⟨p0,p1,p2,p3,rfl⟩:∃p0 p1 p2 p3,ps=[p0,p1,p2,p3]:=by
  have:=hP.len.1
  match ps,this with
  | [a,b,c,d],_=>exact⟨a,b,c,d,rfl⟩
 have S:Calls prog 14 #[.pointer (some ⟨d,0,none⟩),.string an] w1 fun e w'=>e=.returned (.pointer (some ⟨p0,0,none⟩))/\w'=w1:=hP.table (j:=0) (by decide) (aM _ (z8 _)) (by decide:0<4)
 have b0:=aa hP;clear hP;go_upto_region 4 with (go_at_call 14;(with_reducible refine S.mono ?_);rintro e w2⟨rfl,hw⟩;subst w2;clear S);have x:=Ea 5 w1
 go_upto_region 5 with (first|(go_at_call 164;(with_reducible refine x.mono ?_);rintro e w2⟨rfl,U⟩;have H2:=aa U;have V:=tO sA w2;clear x U)|(go_at_call 165;(with_reducible refine V.mono ?_);rintro e w3⟨rfl,X⟩;have H3:=aa (aC H2.out X);clear V X)|(go_at_call 165;(with_reducible refine(tO _ _).mono ?_);rintro e w4⟨rfl,H⟩;have h:=fI b0.out (CF H3.out H).1 (CF H3.out H).2 Hi iZ (by decide) FS (n:=1) rfl;clear H)|(go_at_call 129;(with_reducible refine h.mono ?_);rintro e y⟨pi,ci,K5,rfl,z,Y,Z,a0,a1⟩;have Q:=aa (ab Y (ab Z (ab a0 a1)));have I:=aa (fun q A=>(z q (.inl A)).1);clear h z Y Z a0 a1))
 have k:=Ew (w:=y) zF;have h:=fI Q.2.2.1 k.1 k.2.1 Gr DY (by decide) IE (n:=0) rfl;have a2:=aa k.2.2;have a3:=aa k.1;clear k;go_upto_region 6 with (go_at_call 129;(with_reducible refine h.mono ?_);rintro e R⟨pj,cj,K8,rfl,B,_,_,a4,a5⟩;have J:=aa (ab B (ab a4 a5));clear h B a4 a5);have L:=aD R (.cells #[.int .i64 6,.int .i64 1,.string an,.int .i64 0,.string e0] 173);have k9:=z7 R (.cells #[.int .i64 6,.int .i64 1,.string an,.int .i64 0,.string e0] 173);have h:=fI (ops:=[]) (tv:=.slice none 0 0) J.2.1 L ⟨[],rfl,ac.nil,fun j hj=>absurd hj (yh j)⟩ (fun o ho=>by cases ho) Fc (by decide) Ep (n:=0) rfl;have H9:=aa (ab L k9);clear L k9;go_upto_region 7 with (go_at_call 129;(with_reducible refine h.mono ?_);rintro e l⟨pk,ck,b1,rfl,m,_,_,_,E⟩;have p:=aa (ab m E);clear h m E);have g:=aD l (.cells #[.int .i64 5,.int .i64 0,.string e0,.int .i64 0,.string e0] 173);have M:=z7 l (.cells #[.int .i64 5,.int .i64 0,.string e0,.int .i64 0,.string e0] 173);obtain⟨r,s⟩:=ae (l.alloc (.cells #[.int .i64 5,.int .i64 0,.string e0,.int .i64 0,.string e0] 173));rw[s]at g M;rw[s]
 have a6:r.heap[y.heap.size]?=some (.cells zF 173):=by
  have hl:y.heap.size<((y.alloc (.cells zF 173)).alloc (.cells AU 73)).heap.size:=(by rw[zm,zm];omega);have e8:=J.1 y.heap.size (.inr ⟨zo _,hl⟩);have k8:=e8.2.trans a2.out;have t:=p.1 y.heap.size (.inl e8.1);exact aE g (t.2.trans (aE H9.1 k8))
 have a7:r.heap[R.heap.size]?=some (.cells #[.int .i64 6,.int .i64 1,.string an,.int .i64 0,.string e0] 173):=by
  have t:=p.1 R.heap.size (.inr ⟨zo _,aB H9.2⟩);exact aE g (t.2.trans H9.2)
 have a8:y.heap.size<=R.heap.size:=by
  obtain⟨_,_,⟨_,_,_,_,_,_,_,hT⟩,_⟩:=J.2.2;exact hT.size
 have u:Ro r 0 (.slice pi 1 ci) [0]:=(Q.1.of (w':=l) (fun q A=>by
  have hl:=(ac.lt Q.1 q A).2;have e8:=J.1 q (.inl (Q.2.1 q A));have t:=p.1 q (.inl e8.1);exact t.2.trans ((H9.1.block q (z9 hl a8)).trans (e8.2.trans (a3.out.block q hl))))).later g
 have F:Below W.heap.size W r:=aC (((Q.2.2.2.back J.2.2 I.out).back p.2 (fun q A=>(J.1 q (.inl (I.out q A))).1)).bel (zg _ _) (fun q A=>A)) g;have G:=kL r;obtain⟨gi,b2,e,_,_⟩:=ac.slice u (by decide);cases e;have v:=aa (ab a6 (ab a7 (ab M (ab u F))));obtain⟨F1,N⟩:=ae y.heap.size;obtain⟨F2,O⟩:=ae R.heap.size;obtain⟨F3,P⟩:=ae l.heap.size;rw[N,O,P]at v;rw[N,O,P];clear a6 a7 M u F s g a8 N O P J H9 p Q I a2 a3;go_wp2_with (go_at_call 166;refine G.mono ?_;rintro e b3⟨rfl,f⟩;have c0:=aA (aE f v.1) 0;have d0:=aA (aE f v.2.1) 0;have d1:=aA (aE f v.2.1) 1;have d2:=aA (aE f v.2.1) 2;have f0:=aA (aE f v.2.2.1) 0;have l1:=aB (aE f v.1);have l2:=aB (aE f v.2.1);have l3:=aB (aE f v.2.2.1);have i0:=ac.cell (ac.later v.2.2.2.1 f) (j:=0) rfl;have a9:=aa (aC v.2.2.2.2 f);clear G f);go_ret;exact⟨rfl,a9.out⟩
theorem pI(n:Int)(W:World):Calls prog 168 #[.int .i64 n] W fun e w'=>e=.returned (.agg #[.int .i64 1,.int .i64 n,.string e0])/\Below W.heap.size W w':=by
 have b:=aD W (.cells #[.int .i64 0,.int .i64 0,.string e0] 32);have a:=z7 W (.cells #[.int .i64 0,.int .i64 0,.string e0] 32);obtain⟨w1,c⟩:=ae (W.alloc (.cells #[.int .i64 0,.int .i64 0,.string e0] 32));obtain⟨B,h⟩:=ae W.heap.size;rw[c]at b a;rw[h]at a;have o:=aA a 0;have p:=aA a 1;have q:=aA a 2;have r:=(fun i=>zq w1 B i _ _ a);have s:=aB a;have d:=aa (ab c (ab h (ab b a)));clear c h b a;go_enter func168,ntmps168;go_upto_region 1 with fail;rw[d.1,d.2.1];go_wp2_with fail;generalize j:((World.setCell _ _ _).setCell _ _).setCell _ _=wz;have g:=gD d.2.2.2 (.int .i64 1) (.int .i64 n) (.string e0);have f:=bD d.2.2.1 (xn d.2.1) (.int .i64 1) (.int .i64 n) (.string e0);rw[j]at g f;have k:=aA g 0;have l:=aA g 1;have m:=aA g 2;refine y8 (v:=(.agg #[.int .i64 1,.int .i64 n,.string e0])) (by simp[results,results168,go_sem,k,l,m]) rfl ?_;exact⟨rfl,f⟩
theorem eU(s:ByteArray)(W:World):Calls prog 169 #[.string s] W fun e w'=>e=.returned (.agg #[.int .i64 2,.int .i64 0,.string s])/\Below W.heap.size W w':=by
 have b:=aD W (.cells #[.int .i64 0,.int .i64 0,.string e0] 32);have a:=z7 W (.cells #[.int .i64 0,.int .i64 0,.string e0] 32);obtain⟨w1,c⟩:=ae (W.alloc (.cells #[.int .i64 0,.int .i64 0,.string e0] 32));obtain⟨B,h⟩:=ae W.heap.size;rw[c]at b a;rw[h]at a;have n:=aA a 0;have o:=aA a 1;have p:=aA a 2;have q:=(fun i=>zq w1 B i _ _ a);have r:=aB a;have d:=aa (ab c (ab h (ab b a)));clear c h b a;go_enter func169,ntmps169;go_upto_region 1 with fail;rw[d.1,d.2.1];go_wp2_with fail;generalize j:((World.setCell _ _ _).setCell _ _).setCell _ _=wz;have g:=gD d.2.2.2 (.int .i64 2) (.int .i64 0) (.string s);have f:=bD d.2.2.1 (xn d.2.1) (.int .i64 2) (.int .i64 0) (.string s);rw[j]at g f;have k:=aA g 0;have l:=aA g 1;have m:=aA g 2;refine y8 (v:=(.agg #[.int .i64 2,.int .i64 0,.string s])) (by simp[results,results169,go_sem,k,l,m]) rfl ?_;exact⟨rfl,f⟩abbrev oF:Array Value:=#[.int .i64 0,.string e0,.int .i64 0,.string e0,.slice none 0 0]
abbrev AO(nm:ByteArray)(v:Value):Value:=.agg #[.int .i64 1,.string nm,.int .i64 0,.string e0,v]
theorem Fo{S:Nat->Prop}{v:Value}{vals:List T3}(nm:ByteArray){W:World}(h:fk S W v vals)(h0:0<vals.length)(x:vals.length<=1000):Calls prog 167 #[.string nm,v] W fun e w'=>∃g a,e=.returned (AO nm (.slice (some ⟨g,0,none⟩) vals.length a))/\ac w' W.heap.size 32 3 (.slice (some ⟨g,0,none⟩) vals.length a) vals.length (cells3 vals)/\Below W.heap.size W w':=by
 have b:=aD W (.cells oF 73);have r:=z7 W (.cells oF 73);obtain⟨w1,k⟩:=ae (W.alloc (.cells oF 73));obtain⟨B,y⟩:=ae W.heap.size;rw[k]at b r;rw[y]at r;obtain⟨g,a,w2,d,w,l⟩:=sH (h.later b) x h0;obtain⟨n,s⟩:=ae vals.length;rw[s]at d w;rw[s];have f:=aE l r;have M:=aA f 0;have N:=aA f 1;have O:=aA f 2;have P:=aA f 3;have Q:=aA f 4;have R:=(fun i=>zq w2 B i _ _ f);have U:=aB f
 have t:B≠g:=by
  have x:=(ac.lt w g rfl).1;have V:=aB r;omega
 have u:W.heap.size<=w1.heap.size:=b.size;obtain⟨p,c,rfl,_,_⟩:=h.slice;rw[s]at d;have j:=aa (ab k (ab y (ab f (ab (aC b l) (ab (w.mono u) t)))));rw[s];clear k y b r l w f h h0 x s t u;go_enter func167,ntmps167;go_upto_region 1 with fail;rw[j.1,j.2.1];go_wp2_with (at_builtin;refine aT rfl (.const (.slice none 0 0)) (.tmp 6) 35 rfl rfl rfl d ?_);generalize z:((((World.setCell _ _ _).setCell _ _).setCell _ _).setCell _ _).setCell _ _=wz;have o:=nX j.2.2.1 (.int .i64 1) (.string nm) (.int .i64 0) (.string e0) (.slice (some ⟨g,0,none⟩) n a);have m:=bG w2 B (.int .i64 1) (.string nm) (.int .i64 0) (.string e0) (.slice (some ⟨g,0,none⟩) n a);rw[z]at o m;have A:Below W.heap.size W wz:=bR j.2.2.2.1 (zo _) m (xn j.2.1)
 have E:ac wz W.heap.size 32 3 (.slice (some ⟨g,0,none⟩) n a) n (cells3 vals):=j.2.2.2.2.1.of (fun q F=>by
  have F:g=q:=(by simpa [Value.ownBlock]using F);subst F;exact m.block _ (ac.lt j.2.2.2.2.1 _ rfl).2 (fun e=>j.2.2.2.2.2 (Option.some.inj e).symm))
 have G:=aA o 0;have H:=aA o 1;have I:=aA o 2;have J:=aA o 3;have L:=aA o 4;refine y8 (v:=AO nm (.slice (some ⟨g,0,none⟩) n a)) (by simp[results,results167,go_sem,G,H,I,J,L]) rfl ?_;exact⟨g,a,rfl,E,A⟩
abbrev sS:ByteArray:=⟨#[115]⟩
abbrev Av:jt:=⟨1,bh,0,e0,[(1,1,e0),(2,0,bx),(2,0,sN),(0,0,e0)]⟩
abbrev Ax:jt:=⟨1,bh,0,e0,[(1,2,e0),(2,0,bx),(2,0,sS),(0,0,e0)]⟩
theorem D1:bk (pre 4) (Lz.map (·.2))=(0,e0,0,e0):=by kernel_rfl
theorem Ce:bk (pre 4) ((jk (pre 4) Lz [Av,Ax]).map (·.2))=(10,bh,1,d'):=by kernel_rfl
theorem D5:∀o∈[Av,Ax],nh o:=fun o a=>by
 have h:o=Av∨o=Ax:=(by simpa using a);rcases h with rfl|rfl
 ·exact eS (by decide) (by decide) (by decide) (by decide)
 ·exact eS (by decide) (by decide) (by decide) (by decide)
theorem E9:∀o∈[Av,Ax],o.dO=1/\jz (pre 4) o.tbl≠-1:=fun o a=>by
 have h:o=Av∨o=Ax:=(by simpa using a);rcases h with rfl|rfl <;> exact⟨rfl,by decide +kernel⟩
abbrev cV(i:Int)(s:ByteArray):Array Value:=#[.int .i64 1,.int .i64 i,.string e0,.int .i64 2,.int .i64 0,.string bx,.int .i64 2,.int .i64 0,.string s,.int .i64 0,.int .i64 0,.string e0]
abbrev AP(g1 k1 g2 k2:Nat):Array Value:=#[.int .i64 1,.string bh,.int .i64 0,.string e0,.slice (some ⟨g1,0,none⟩) 4 k1,.int .i64 1,.string bh,.int .i64 0,.string e0,.slice (some ⟨g2,0,none⟩) 4 k2]
section
variable{w w1 w2:World}
theorem CR(i:Int)(s:ByteArray)(w1:World):Calls prog 167 #[.string bh,.slice (some ⟨w1.heap.size,0,none⟩) 4 4] (w1.alloc (.cells (cV i s) 32)) fun e w'=>∃g a,e=.returned (AO bh (.slice (some ⟨g,0,none⟩) 4 a))/\ac w' w1.heap.size 32 3 (.slice (some ⟨g,0,none⟩) 4 a) 4 (cells3 [(1,i,e0),(2,0,bx),(2,0,s),(0,0,e0)])/\Below w1.heap.size w1 w':=by
 have k:=z7 w1 (.cells (cV i s) 32);have b:=aD w1 (.cells (cV i s) 32);have f:ac (w1.alloc (.cells (cV i s) 32)) w1.heap.size 32 3 (.slice (some ⟨w1.heap.size,0,none⟩) 4 4) 4 (cells3 [(1,i,e0),(2,0,bx),(2,0,s),(0,0,e0)]):=ac.lit k rfl rfl (zo _) (by unfold maxLen;decide);refine(Fo bh (fk.my f rfl) (by simp) (by simp)).mono ?_;rintro e w'⟨g,a,rfl,c,d⟩;exact⟨g,a,rfl,c.mono b.size,aC b d⟩
end
theorem DP(a c d:Int)(t u:ByteArray)(w:World):(Instr.field 173 (.agg #[.int .i64 a,.int .i64 c,.string t,.int .i64 d,.string u]) 0).run prog w=.ok (.int .i64 a) w:=by kernel_rfl
theorem uG{K:Nat->Prop}{W0 w0:World}{d b:Nat}{ts:List T}{ps:List Nat}{L1 L2:List PT}{p:Option Addr}{cap:Nat}{ops:List jt}{base m:Nat}(h:PD K W0 w0 d b ts ps L1 L2)(ho:qv W0 base (.slice p ops.length cap) ops)(hK:∀q,base<=q->q<W0.heap.size->K q)(hi:ls ts)(hfew:bs ts)(hsz:Short ts)(hcs:∀t∈ts,0<t.cols.length/\t.cols.length<=1000)(h1:∀x∈L1,ie m x)(h2:∀x∈L2,ie m x)(hm:m+ops.length<=590)(hops:∀o∈ops,nh o)(hon:∀o∈ops,o.dO=1/\jz ts o.tbl≠-1):Calls prog 21 #[.pointer (some ⟨d,0,none⟩),.pointer (some ⟨b,0,none⟩),.slice p ops.length cap] w0 fun e w'=>e=.returned (.tuple #[])/\PD K W0 w' d b ts ps (jk ts L1 ops) (jk ts L2 ops):=by
 refine Il h (fun j c=>?_) hi hfew hsz hcs h1 h2 hm hops hon;obtain⟨g,a,f,e,i⟩:=tN ho hK c;cases e;refine⟨g,0,f,rfl,fun w k=>?_⟩;obtain⟨⟨c0,c1,c2,c3,c4,l⟩,_,n⟩:=i w k;rw[xj];exact⟨⟨c0,c1,c2,c3,c4,l⟩,n⟩
theorem uH(W:World):Calls prog 132 #[] W fun e w'=>e=.returned (.bool true)/\Below W.heap.size W w':=by
 have l:=iY W;go_enter func132,ntmps132;go_upto_region 2 with (go_at_call 20;(with_reducible refine l.mono ?_);rintro e w1⟨d,b,ps,rfl,Z⟩;clear l)
 obtain⟨p0,p1,p2,p3,rfl⟩:∃p0 p1 p2 p3,ps=[p0,p1,p2,p3]:=by
  have:=Z.len.1
  match ps,this with
  | [a,b,c,d],_=>exact⟨a,b,c,d,rfl⟩
 have a0:Calls prog 14 #[.pointer (some ⟨d,0,none⟩),.string bh] w1 fun e w'=>e=.returned (.pointer (some ⟨p1,0,none⟩))/\w'=w1:=Z.table (j:=1) (by decide) (aM _ (z8 _)) (by decide:1<4)
 have i:=Z.check eT iZ (by decide);rw[D1]at i;have a1:=aa Z;clear Z;go_upto_region 4 with (go_at_call 14;(with_reducible refine a0.mono ?_);rintro e w2⟨rfl,hw⟩;subst w2;clear a0);go_upto_region 5 with (go_at_call 130;(with_reducible refine i.mono ?_);rintro e w2⟨rfl,a2⟩;have a3:=aa (a1.out.later a2);clear i a2 a1);have bA:=aD w2 (.cells zF 173);have kA:=z7 w2 (.cells zF 173);obtain⟨wA,y⟩:=ae (w2.alloc (.cells zF 173));rw[y]at bA kA;have HA:=aa (ab bA (ab kA y))
 try rw[y]
 clear bA kA y;have a4:=pI 1 wA
 go_upto_region 6 with (first|(go_at_call 168;(with_reducible refine a4.mono ?_);rintro e w3⟨rfl,a5⟩;have B3:=aa a5;have a6:=eU bx w3;clear a4 a5)|(go_at_call 169;(with_reducible refine a6.mono ?_);rintro e w4⟨rfl,a7⟩;have B4:=aa (aC B3.out a7);have a8:=eU sN w4;clear a6 a7)|(go_at_call 169;(with_reducible refine a8.mono ?_);rintro e w5⟨rfl,a9⟩;have B5:=aa (aC B4.out a9);have b0:=CR 1 sN w5;clear a8 a9)|(go_at_call 167;(with_reducible refine b0.mono ?_);rintro e w7⟨g1,k1,rfl,b1,b2⟩;have B7:=aa (ab (aC B5.out b2) (b1.mono B5.out.size));have b3:=pI 2 w7;clear b0 b1 b2)|(go_at_call 168;(with_reducible refine b3.mono ?_);rintro e w8⟨rfl,O⟩;have B8:=aa (ab (aC B7.1 O) (B7.2.later O));have b4:=eU bx w8;clear b3 O)|(go_at_call 169;(with_reducible refine b4.mono ?_);rintro e w9⟨rfl,P⟩;have B9:=aa (ab (aC B8.1 P) (B8.2.later P));have b5:=eU sS w9;clear b4 P)|(go_at_call 169;(with_reducible refine b5.mono ?_);rintro e c1⟨rfl,m⟩;have Q:=aa (ab (aC B9.1 m) (B9.2.later m));have b6:=CR 2 sS c1;clear b5 m)|(go_at_call 167;(with_reducible refine b6.mono ?_);rintro e n⟨g2,k2,rfl,E,o⟩;have p:=aD n (.cells (AP g1 k1 g2 k2) 73);have b7:=z7 n (.cells (AP g1 k1 g2 k2) 73);have g:=aC Q.1 o;have k:=aC HA.1 g;have F:qv (n.alloc (.cells (AP g1 k1 g2 k2) 73)) wA.heap.size (.slice (some ⟨n.heap.size,0,none⟩) 2 2) [Av,Ax]:=nP (v1:=.slice (some ⟨g1,0,none⟩) 4 k1) (v2:=.slice (some ⟨g2,0,none⟩) 4 k2) b7 rfl g.size ((Q.2.later o).later p) ((E.mono Q.1.size).later p);have r:=aC k p;have G:=a3.out.with r;have s:Calls prog 21 #[.pointer (some ⟨d,0,none⟩),.pointer (some ⟨b,0,none⟩),.slice (some ⟨n.heap.size,0,none⟩) 2 2] _ _:=uG (ops:=[Av,Ax]) G F (fun q h1 h2=>.inr ⟨zx HA.1.size h1,h2⟩) (cO 4 (by decide)) (bN 4) aM gV iZ iZ (by decide) D5 E9;have R:=aa (ab r (aE (aC g p) HA.2.1));clear p b7 g k F r G b6 E o)|(go_at_call 21;(with_reducible refine s.mono ?_);rintro e c7⟨rfl,H⟩;have I:=aa H;clear s H))
 have J:=(I.out.still (.inr ⟨zo _,aB R.2⟩)).trans R.2;have S:=(a3.out.later R.1).back I.out (fun q hq=>.inl hq);have U:∀x∈jk (pre 4) Lz [Av,Ax],ie 2 x:=(fun x hx=>nF iZ x hx);have i:=S.check eT U (by decide);rw[Ce]at i;have c2:=aa U;have c3:=aa S;have b8:=aa J;clear J S U;go_upto_region 7 with (go_at_call 130;(with_reducible refine i.mono ?_);rintro e z⟨rfl,L⟩;have b9:=aa L;clear i L);have A:=aD z (.cells #[.int .i64 10,.int .i64 0,.string bh,.int .i64 1,.string d'] 173);have B:=z7 z (.cells #[.int .i64 10,.int .i64 0,.string bh,.int .i64 1,.string d'] 173);obtain⟨c4,t⟩:=ae (z.alloc (.cells #[.int .i64 10,.int .i64 0,.string bh,.int .i64 1,.string d'] 173));rw[t]at A B
 try rw[t]
 obtain⟨F1,V⟩:=ae w2.heap.size;obtain⟨F2,X⟩:=ae z.heap.size;have kF:=aE (aC b9.out A) b8.out;rw[V]at kF;rw[X]at B
 try rw[V]
 try rw[X]
 have h:=aa (ab (aC b9.out A) (ab kF B));have M:=kL c4;have c8:=(fun w=>DP 10 0 1 bh d' w);clear A B kF t V X
 go_wp2_with (first|(go_at_call 166;refine M.mono ?_;rintro e Y⟨rfl,f⟩;have c0:=aA (aE f h.2.1) 0;have cl:=aB (aE f h.2.1);have d0:=aA (aE f h.2.2) 0;have d2:=aA (aE f h.2.2) 2;have d3:=aA (aE f h.2.2) 3;have d4:=aA (aE f h.2.2) 4;have dl:=aB (aE f h.2.2);have u:=c3.out.later (aC h.1 f);have v:=u.ncheck eT F6 (by decide) c2.out (by decide);rw[Ce]at v;have v:Calls prog 170 #[.pointer (some ⟨b,0,none⟩)] Y fun e w'=>e=.returned (.agg #[.int .i64 10,.int .i64 0,.string bh,.int .i64 1,.string d'])/\Below Y.heap.size Y w':=v;have c5:=aa (u.bel (zg _ _) (fun q hq=>hq));clear M f u)|(go_at_call 170;refine v.mono ?_;rintro e c9⟨rfl,N⟩;have c6:=aa (aC c5.out N);clear v N))
 go_ret;exact⟨rfl,c6.out⟩
theorem jV(n:Int)(W:World):Calls prog 101 #[.int .i64 n] W fun e w'=>e=.returned (.agg #[.int .i64 1,.int .i64 n,.string e0])/\Below W.heap.size W w':=by
 have b:=aD W (.cells #[.int .i64 0,.int .i64 0,.string e0] 32);have a:=z7 W (.cells #[.int .i64 0,.int .i64 0,.string e0] 32);obtain⟨w1,c⟩:=ae (W.alloc (.cells #[.int .i64 0,.int .i64 0,.string e0] 32));obtain⟨B,h⟩:=ae W.heap.size;rw[c]at b a;rw[h]at a;have o:=aA a 0;have p:=aA a 1;have q:=aA a 2;have r:=(fun i=>zq w1 B i _ _ a);have s:=aB a;have d:=aa (ab c (ab h (ab b a)));clear c h b a;go_enter func101,ntmps101;go_upto_region 1 with fail;rw[d.1,d.2.1];go_wp2_with fail;generalize j:((World.setCell _ _ _).setCell _ _).setCell _ _=wz;have g:=gD d.2.2.2 (.int .i64 1) (.int .i64 n) (.string e0);have f:=bD d.2.2.1 (xn d.2.1) (.int .i64 1) (.int .i64 n) (.string e0);rw[j]at g f;have k:=aA g 0;have l:=aA g 1;have m:=aA g 2;refine y8 (v:=(.agg #[.int .i64 1,.int .i64 n,.string e0])) (by simp[results,results101,go_sem,k,l,m]) rfl ?_;exact⟨rfl,f⟩
theorem xA(s:ByteArray)(W:World):Calls prog 102 #[.string s] W fun e w'=>e=.returned (.agg #[.int .i64 2,.int .i64 0,.string s])/\Below W.heap.size W w':=by
 have b:=aD W (.cells #[.int .i64 0,.int .i64 0,.string e0] 32);have a:=z7 W (.cells #[.int .i64 0,.int .i64 0,.string e0] 32);obtain⟨w1,c⟩:=ae (W.alloc (.cells #[.int .i64 0,.int .i64 0,.string e0] 32));obtain⟨B,h⟩:=ae W.heap.size;rw[c]at b a;rw[h]at a;have n:=aA a 0;have o:=aA a 1;have p:=aA a 2;have q:=(fun i=>zq w1 B i _ _ a);have r:=aB a;have d:=aa (ab c (ab h (ab b a)));clear c h b a;go_enter func102,ntmps102;go_upto_region 1 with fail;rw[d.1,d.2.1];go_wp2_with fail;generalize j:((World.setCell _ _ _).setCell _ _).setCell _ _=wz;have g:=gD d.2.2.2 (.int .i64 2) (.int .i64 0) (.string s);have f:=bD d.2.2.1 (xn d.2.1) (.int .i64 2) (.int .i64 0) (.string s);rw[j]at g f;have k:=aA g 0;have l:=aA g 1;have m:=aA g 2;refine y8 (v:=(.agg #[.int .i64 2,.int .i64 0,.string s])) (by simp[results,results102,go_sem,k,l,m]) rfl ?_;exact⟨rfl,f⟩section
variable{W:World}{d:Nat}{L:List PT}
theorem PD.ut{K:Nat->Prop}{W0 w:World}{b:Nat}{ps:List Nat}{L1 L2:List PT}(h:PD K W0 w d b (pre 4) ps L1 L2):mg w d L1:=by
 obtain⟨a,O,c,_,e⟩:=h.dd;exact⟨a,O,c,e⟩
theorem mg.tab(h:mg W d L){j:Nat}(hj:j<4){nm:ByteArray}(hnm:((pre 4)[j]'hj).nm=nm){x:PT}(hx:L[j]?=some x):∃tb,(∀w,Below W.heap.size W w->Calls prog 14 #[.pointer (some ⟨d,0,none⟩),.string nm] w fun e w'=>e=.returned (.pointer (some ⟨tb,0,none⟩))/\w'=w)/\(∀w,Below W.heap.size W w->Calls prog 15 #[.pointer (some ⟨tb,0,none⟩)] w fun e w'=>∃p n c,e=.returned (.agg #[.slice p n c])/\Below w.heap.size w w'/\Calls prog 9 #[.agg #[.slice p n c]] w' fun e w2=>e=.returned (.int .i64 (x.2.length:Int))/\Below w'.heap.size w' w2)/\(∀w,Below W.heap.size W w->Calls prog 230 #[.pointer (some ⟨tb,0,none⟩)] w fun e w'=>e=.returned (.int .i64 (x.1:Int))/\w'=w):=by
 obtain⟨g,O,k,l⟩:=h;have b:j<(pre 4).length:=hj;have a:j<g.length:=by rw[k.len];exact hj
 have e:g[j].2=x:=by
  rw[<-l,xe,z6 a]at hx;exact Option.some.inj hx
 obtain⟨m,hT,_⟩:=k.tab j b a;subst e hnm;refine⟨g[j].1,fun w f=>(k.later f).table b (aM _ (z8 _)) a,fun w f=>?_,fun w f=>xX (hT.later f)⟩;refine(eM (hT.later f)).mono ?_;rintro e w'⟨p,n,c,rfl,o,q⟩;obtain⟨i,_,r⟩:=hT;exact⟨p,n,c,rfl,q,jS o r.srt⟩
end
section
variable{Has:World->Nat->List PT->Prop}{L R:List PT}{I:List Int}{ops:List jt}{W w':World}{e:Ending}{n:Nat}
theorem Dg(h:qi Has L ops W e w')(h0:(ku L ops).1=0)(hR:(ap (pre 4) L ops).rows=R)(hI:(ap (pre 4) L ops).ids=I)(hn:I.length=n):∃d2 p c,e=.returned (.tuple #[.pointer (some ⟨d2,0,none⟩),.slice p n c,dr 0 0 e0 0 e0])/\Has w' d2 R/\Ro w' W.heap.size (.slice p n c) I/\Below W.heap.size W w':=by
 subst hn hI hR;obtain⟨b,⟨_,d2,p,n,c,rfl,rfl,a,d⟩ | ⟨a,_⟩⟩:=h
 ·exact⟨d2,p,c,rfl,a _ (Tn.refl _ _),d,b⟩
 exact absurd h0 a
theorem C1(h:qi Has L ops W e w'){le:Int×Int×ByteArray×Int×ByteArray}(hle:ku L ops=le)(h0:le.1≠0):e=.returned (.tuple #[.pointer none,.slice none 0 0,By le])/\Below W.heap.size W w':=by
 subst hle;obtain⟨a,⟨b,_⟩ | ⟨_,rfl⟩⟩:=h
 ·exact absurd b h0
 exact⟨rfl,a⟩
end
theorem kw.later{W w:World}{tv:Value}{L:List jt}(h:kw (fun q=>q<W.heap.size) W tv L)(hb:Below W.heap.size W w):kw (fun q=>q<w.heap.size) w tv L:=h.move (fun _ a=>z9 a hb.size) (fun q a=>hb.block q a)
theorem uI(W:World):Calls prog 104 #[] W fun e w'=>e=.returned (.bool true)/\Below W.heap.size W w':=by
 have h:=uF W;go_enter func104,ntmps104;go_wp2_with (go_at_call 131;refine h.mono ?_;rintro e w'⟨rfl,a⟩);go_ret;exact⟨rfl,a⟩
theorem uJ(W:World):Calls prog 105 #[] W fun e w'=>e=.returned (.bool true)/\Below W.heap.size W w':=by
 have h:=uH W;go_enter func105,ntmps105;go_wp2_with (go_at_call 132;refine h.mono ?_;rintro e w'⟨rfl,a⟩);go_ret;exact⟨rfl,a⟩
abbrev AW:Array Value:=#[.int .i64 1,.int .i64 1,.string e0,.int .i64 2,.int .i64 0,.string bx,.int .i64 0,.int .i64 0,.string e0,.int .i64 1,.int .i64 9,.string e0]
abbrev tw:Array Value:=#[.int .i64 1,.int .i64 9,.string e0,.int .i64 0,.int .i64 0,.string e0]
abbrev z'(g1 g2:Nat):Array Value:=#[.int .i64 1,.string bh,.int .i64 0,.string e0,.slice (some ⟨g1,0,none⟩) 4 4,.int .i64 1,.string an,.int .i64 0,.string e0,.slice (some ⟨g2,0,none⟩) 2 2]
abbrev lA:jt:=⟨1,bh,0,e0,[(1,1,e0),(2,0,bx),(0,0,e0),(1,9,e0)]⟩
abbrev lB:jt:=⟨1,an,0,e0,[(1,9,e0),(0,0,e0)]⟩
abbrev lR:List PT:=[(1,[(0,[(1,9,e0),(0,0,e0)])]),(1,[(0,[(1,1,e0),(2,0,bx),(0,0,e0),(1,9,e0)])]),(0,[]),(0,[])]
theorem Fp:ku Lz [lA,lB]=(0,0,e0,0,e0):=by kernel_rfl
theorem Eu:(ap (pre 4) Lz [lA,lB]).rows=lR:=by kernel_rfl
theorem Gm:(ap (pre 4) Lz [lA,lB]).ids=[0,0]:=by kernel_rfl
theorem FO:ku Lz [lA]=(9,1,bh,0,an):=by kernel_rfl
theorem CL:nh lA:=eS (by decide) (by decide) (by decide) (by decide)
theorem Ip:nh lB:=eS (by decide) (by decide) (by decide) (by decide)
theorem G'{w w5 w6:World}(h5:Below w.heap.size w w5)(h6:Below (w5.alloc (.cells AW 32)).heap.size (w5.alloc (.cells AW 32)) w6):Below w.heap.size w ((w6.alloc (.cells tw 32)).alloc (.cells (z' w5.heap.size w6.heap.size) 73))/\kw (fun q=>q<((w6.alloc (.cells tw 32)).alloc (.cells (z' w5.heap.size w6.heap.size) 73)).heap.size) ((w6.alloc (.cells tw 32)).alloc (.cells (z' w5.heap.size w6.heap.size) 73)) (.slice (some ⟨w6.heap.size+1,0,none⟩) 2 2) [lA,lB]/\((w6.alloc (.cells tw 32)).alloc (.cells (z' w5.heap.size w6.heap.size) 73)).heap[w6.heap.size+1]?=some (.cells (z' w5.heap.size w6.heap.size) 73)/\ac ((w6.alloc (.cells tw 32)).alloc (.cells (z' w5.heap.size w6.heap.size) 73)) w.heap.size 32 3 (.slice (some ⟨w5.heap.size,0,none⟩) 4 4) 4 (cells3 lA.vals)/\ac ((w6.alloc (.cells tw 32)).alloc (.cells (z' w5.heap.size w6.heap.size) 73)) w.heap.size 32 3 (.slice (some ⟨w6.heap.size,0,none⟩) 2 2) 2 (cells3 lB.vals):=by
 have g:=aC h5 (aD w5 (.cells AW 32));have a:=z7 w5 (.cells AW 32);have e:=aC g h6;have a:=aE h6 a;have f:=aD w6 (.cells tw 32);have b:=z7 w6 (.cells tw 32);have c:=aD (w6.alloc (.cells tw 32)) (.cells (z' w5.heap.size w6.heap.size) 73);have d:=z7 (w6.alloc (.cells tw 32)) (.cells (z' w5.heap.size w6.heap.size) 73);have a:=aE c (aE f a);have b:=aE c b;have h:(w6.alloc (.cells tw 32)).heap.size=w6.heap.size+1:=zm _ _;have l3:=h5.size;have l4:=e.size;rw[h]at d;refine⟨aC (aC e f) c,kw.of (base:=w.heap.size) (nP (v1:=.slice (some ⟨w5.heap.size,0,none⟩) 4 4) (v2:=.slice (some ⟨w6.heap.size,0,none⟩) 2 2) d rfl (by omega) ?_ ?_) (fun q _ i=>i),d,?_,?_⟩
 ·exact ac.lit a rfl rfl l3 (by unfold maxLen;decide)
 ·exact ac.lit b rfl rfl l4 (by unfold maxLen;decide)
 ·exact ac.lit a rfl rfl l3 (by unfold maxLen;decide)
 exact ac.lit b rfl rfl l4 (by unfold maxLen;decide)
theorem uK(W:World):Calls prog 65 #[] W fun e w'=>e=.returned (.bool true)/\Below W.heap.size W w':=by
 have n:=iY W;go_enter func65,ntmps65;go_upto_region 2 with (go_at_call 20;(with_reducible refine n.mono ?_);rintro e w1⟨d,b,ps,rfl,hP⟩;have O:=aa (ab hP.ut (hP.bel (zg _ _) (fun q hq=>hq)));clear n hP);obtain⟨tb,ht,_,_⟩:=O.1.tab (j:=0) (by decide) (nm:=an) rfl (x:=(0,[])) rfl;have R:=ht w1 (zg _ _);clear ht;go_upto_region 4 with (go_at_call 14;(with_reducible refine R.mono ?_);rintro e w2⟨rfl,hw⟩;subst w2;clear R);have S:=jV 1 w1
 go_upto_region 5 with (first|(go_at_call 101;(with_reducible refine S.mono ?_);rintro e w2⟨rfl,U⟩;have H2:=aa U;have V:=xA bx w2;clear S U)|(go_at_call 102;(with_reducible refine V.mono ?_);rintro e w3⟨rfl,X⟩;have H3:=aa (aC H2.out X);have Y:=jV 9 w3;clear V X)|(go_at_call 101;(with_reducible refine Y.mono ?_);rintro e w4⟨rfl,Z⟩;have H4:=aa (aC H3.out Z);have a0:=jV 9 (w4.alloc (.cells AW 32));clear Y Z)|(go_at_call 101;(with_reducible refine a0.mono ?_);rintro e w6⟨rfl,a1⟩;have H6:=aa a1;clear a0 a1))
 obtain⟨B,t,_⟩:=G' H4.out H6.out;obtain⟨wO,E⟩:=ae ((w6.alloc (.cells tw 32)).alloc (.cells (z' w4.heap.size w6.heap.size) 73));obtain⟨g,hg⟩:=ae (w6.heap.size+1);rw[E]at B t;rw[hg]at t
 try rw[E]
 try rw[hg]
 have P:=aa (ab B t);clear B t E hg
 have i:Calls prog 103 #[.pointer (some ⟨d,0,none⟩),.slice (some ⟨g,0,none⟩) 2 2] wO fun e w'=>∃d2 p c,e=.returned (.tuple #[.pointer (some ⟨d2,0,none⟩),.slice p 2 c,dr 0 0 e0 0 e0])/\mg w' d2 lR/\Ro w' wO.heap.size (.slice p 2 c) [0,0]/\Below wO.heap.size wO w':=
  (uD (O.1.later P.1) P.2 iZ (by decide) (fun o ho=>by rcases List.mem_cons.1 ho with rfl|ho;exact CL;rw[List.mem_singleton.1 ho];exact Ip)).mono (fun e w' h=>Dg h (by rw[Fp]) Eu Gm rfl)
 go_upto_region 6 with (go_at_call 103;(with_reducible refine i.mono ?_);rintro e w7⟨x,p1,c1,rfl,hX,_,a2⟩;have H7:=aa (ab hX a2);clear i hX a2);have b8:=aD w7 (.cells zF 173);have k8:=z7 w7 (.cells zF 173);obtain⟨w8,F⟩:=ae (w7.alloc (.cells zF 173));obtain⟨F1,G⟩:=ae w7.heap.size;rw[F]at b8 k8;rw[G]at k8
 try rw[F]
 try rw[G]
 have Q:=aa (ab (aC H7.2 b8) (ab k8 (H7.1.later b8)));clear b8 k8 F G;have v:kw (fun q=>q<w8.heap.size) w8 (.slice (some ⟨g,0,none⟩) 1 2) [lA]:=(P.2.later Q.1).part (c2:=2) 0 1 (by decide)
 have i:Calls prog 103 #[.pointer (some ⟨d,0,none⟩),.slice (some ⟨g,0,none⟩) 1 2] w8 fun e w'=>e=.returned (.tuple #[.pointer none,.slice none 0 0,dr 9 1 bh 0 an])/\Below w8.heap.size w8 w':=
  (uD ((O.1.later P.1).later Q.1) v iZ (by decide) (fun o ho=>by rw[List.mem_singleton.1 ho];exact CL)).mono (fun e w' h=>C1 h FO (by decide))
 clear v;go_upto_region 7 with (go_at_call 103;(with_reducible refine i.mono ?_);rintro e w9⟨rfl,a3⟩;have H9:=aa a3;clear i a3);have H:=aD w9 (.cells #[.int .i64 9,.int .i64 1,.string bh,.int .i64 0,.string an] 173);have u:=z7 w9 (.cells #[.int .i64 9,.int .i64 1,.string bh,.int .i64 0,.string an] 173);obtain⟨a4,r⟩:=ae (w9.alloc (.cells #[.int .i64 9,.int .i64 1,.string bh,.int .i64 0,.string an] 173));obtain⟨F2,I⟩:=ae w9.heap.size;rw[r]at H u;rw[I]at u
 try rw[r]
 try rw[I]
 have a:=aC H9.out H;have k:=aa (ab (aE a Q.2.1) u);obtain⟨tx,a5,a6,_⟩:=(Q.2.2.later a).tab (j:=1) (by decide) (nm:=bh) rfl (x:=(1,[(0,[(1,1,e0),(2,0,bx),(0,0,e0),(1,9,e0)])])) rfl;have J:=aC (aC P.1 Q.1) a;obtain⟨td,a7,i,_⟩:=(O.1.later J).tab (j:=1) (by decide) (nm:=bh) rfl (x:=(0,[])) rfl;have HT:=aa (ab a5 (ab a6 (ab a7 i)));have a8:=aa (aC O.2 J);clear H u r I a a5 a6 a7 i J Q H9 P H7 O H2 H3 H4 H6;have hx:=HT.1 a4 (zg _ _);go_upto_region 9 with (go_at_call 14;(with_reducible refine hx.mono ?_);rintro e w2⟨rfl,hw⟩;subst w2;clear hx);have w:=uI a4
 go_wp2_with (first|(go_at_call 104;refine w.mono ?_;rintro e b1⟨rfl,y⟩;have b2:=aa y;have z:=uJ b1;clear w y)|(go_at_call 105;refine z.mono ?_;rintro e a9⟨rfl,A⟩;have f:=aa (aC b2.out A);have c0:=aA (aE f.out k.1) 0;have cl:=aB (aE f.out k.1);have f0:=aA (aE f.out k.2) 0;have f1:=aA (aE f.out k.2) 1;have f2:=aA (aE f.out k.2) 2;have f4:=aA (aE f.out k.2) 4;have fl:=aB (aE f.out k.2);have h1:=HT.2.2.1 a9 f.out;clear z A)|(go_at_call 14;(with_reducible refine h1.mono ?_);rintro e w2⟨rfl,hw⟩;subst w2;have h2:=HT.2.2.2 a9 f.out;clear h1)|(go_at_call 15;(with_reducible refine h2.mono ?_);rintro e L⟨pa,na,ca,rfl,s,l⟩;have l:Calls prog 9 #[.agg #[.slice pa na ca]] L fun e w2=>e=.returned (.int .i64 0)/\Below L.heap.size L w2:=l;have b3:=aa (aC f.out s);clear h2 s)|(go_at_call 9;(with_reducible refine l.mono ?_);rintro e b0⟨rfl,s⟩;have M:=aa (aC b3.out s);have h3:=HT.1 b0 M.out;clear l s)|(go_at_call 14;(with_reducible refine h3.mono ?_);rintro e w2⟨rfl,hw⟩;subst w2;have h4:=HT.2.1 b0 M.out;clear h3)|(go_at_call 15;(with_reducible refine h4.mono ?_);rintro e N⟨pb,nb,cb,rfl,s,m⟩;have m:Calls prog 9 #[.agg #[.slice pb nb cb]] N fun e w2=>e=.returned (.int .i64 1)/\Below N.heap.size N w2:=m;have b4:=aa (aC M.out s);clear h4 s)|(go_at_call 9;(with_reducible refine m.mono ?_);rintro e b6⟨rfl,s⟩;have b5:=aa (aC b4.out s);clear m s))
 go_ret;exact⟨rfl,aC a8.out b5.out⟩
