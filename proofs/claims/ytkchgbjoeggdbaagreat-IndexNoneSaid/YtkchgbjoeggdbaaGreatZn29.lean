import Derived.Test.YtkchgbjoeggdbaaGreatZn28
set_option maxHeartbeats 8000000
set_option maxRecDepth 100000
namespace Go.Proofs.YtkchgbjoeggdbaaGreat
open Go.Proofs.Tryz
open Go Go.RowKit Go.Proofs
variable{mv:Value}
theorem DO{l:List T}{x:ByteArray}(j:Nat)(h:j<l.length)(hp:qb x l[j]=true)(hn:∀i (hi:i<j),qb x (l[i]'(by omega))=false):jz l x=(j:Int):=by
 obtain⟨_,_,a⟩:=dT (p:=qb x) l j h hp hn;unfold jz;rw[a]
theorem FB{l:List T}{x:ByteArray}(hn:∀i (hi:i<l.length),qb x l[i]=false):jz l x=-1:=by
 obtain⟨_,_,a⟩:=iH (p:=qb x) l hn;unfold jz;rw[a]
theorem bW(l:List T)(x:ByteArray):(jz l x=-1/\fe l x=false/\bg l x=none)∨∃(j:Nat) (h:j<l.length),jz l x=(j:Int)/\fe l x=true/\bg l x=some l[j]:=by
 rw[cU];unfold jz bg
 have:=iP (p:=qb x) l
 cases h:l.findIdx? (qb x)with
 | none=>rw[h]at this;simp only at this;rw[this];exact .inl ⟨rfl,rfl,rfl⟩
 | some j=>rw[h]at this;obtain⟨a,b,_⟩:=this;rw[b];exact .inr ⟨j,a,rfl,rfl,rfl⟩
theorem cD(l:List C)(x:ByteArray):(fx l x=-1/\cp l x=false/\dt l x=none)∨∃(j:Nat) (h:j<l.length),fx l x=(j:Int)/\cp l x=true/\dt l x=some l[j]:=by
 rw[oS];unfold fx dt
 have:=iP (p:=mw x) l
 cases h:l.findIdx? (mw x)with
 | none=>rw[h]at this;simp only at this;rw[this];exact .inl ⟨rfl,rfl,rfl⟩
 | some j=>rw[h]at this;obtain⟨a,b,_⟩:=this;rw[b];exact .inr ⟨j,a,rfl,rfl,rfl⟩
theorem cW{ts:List T}{v:Value}{x:ByteArray}{W:World}(h:iq W v ts):Calls prog 56 #[v,.string x] W fun e w'=>e=.returned (.int .i64 (jz ts x))/\w'=W:=by
 obtain⟨p,u,rfl,y,z⟩:=h.slice;obtain⟨n,k⟩:=ae ts.length;unfold maxLen at z;rw[k]at y ⊢;rw[k]at h;have A:=aa h;have l:=aa k;clear h k;go_enter func56,ntmps56;go_wp2_with fail;go_loopg [5] (n+1) (fun B E w=>∃(j:Nat),E=.int .i64 (j:Int)/\j<=n/\n+1<=j+B/\(∀i (h:i<ts.length),i<j->qb x ts[i]=false)/\w=W)
 case atStart=>exact⟨0,rfl,zj _,by omega,fun i _ c=>by omega,rfl⟩
 obtain⟨j,rfl,H,I,f,rfl⟩:=hrel;have m:=aa f;clear f;by_cases g:j<n
 ·have o:j<ts.length:=(by rw[l.out];exact g);obtain⟨b,F,cv,dv,rfl,J,c0,_,_,_,_⟩:=iq.tab A.out o;obtain⟨t,a⟩:=ae (ts[j]);rw[a]at c0;have s:=aa a;clear a;cases d:qb x t
  ·have q:=aa d;have r:(t.nm.toList==x.toList)=false:=(by rw[aQ];exact d);clear d;go_wp2_with fail;go_roundg (n-j)
   case measure=>omega
   refine⟨j+1,by go_num,by omega,by omega,fun i c G=>?_,rfl⟩;by_cases e:i=j
   ·subst e;rw[s.out];exact q.out
   exact m.out i c (by omega)
  have q:=aa d;have r:(t.nm.toList==x.toList)=true:=(by rw[aQ];exact d);clear d;go_wp2_with fail;go_ret;exact⟨aP (DO j (by rw[l.out];exact g) (by rw[s.out];exact q.out) (fun i c=>m.out i _ c)).symm,rfl⟩
 go_wp2_with fail;go_ret;exact⟨aP (FB (fun i c=>m.out i c (by have:=l.out;omega))).symm,rfl⟩
theorem sX{l:List C}{i:Nat}(hi:i<l.length):js l i=(named l[i].nm&&decide (fx l l[i].nm=(i:Int))):=by
 rw[mU hi]
 congr 1
 rcases cD l l[i].nm with ⟨b,d,_⟩ | ⟨j,r,b,_,s⟩
 ·exfalso;unfold cp at d;rw[v6]at d;exact d l[i] (z8 _) (sQ _)
 rw[b];have g:=iP (p:=mw l[i].nm) l
 have f:l.findIdx? (mw l[i].nm)=some j:=by
  unfold fx at b;cases h:l.findIdx? (mw l[i].nm)with
  | none=>rw[h]at b;simp at b
  | some k=>rw[h]at b;simp only at b;congr 1 <;> omega
 rw[List.findIdx?_eq_some_iff_getElem]at f;obtain⟨_,m,a⟩:=f
 have n:j<=i:=by
  rcases wm i j with h|h
  ·exact absurd (sQ l[i].nm) (by have:=a i h;simpa [mw]using this)
  exact h
 by_cases e:j=i
 ·subst e;rw[yy rfl,Bool.not_eq_true'];unfold cp;rw[v6];intro c o;obtain⟨k,q,rfl⟩:=xp o;rw[xq]at q;rw[List.getElem_take];exact a k (by omega)
 rw[yp (by omega),Bool.not_eq_false'];unfold cp;rw[vd];exact⟨l[j],List.mem_iff_getElem.2 ⟨j,by rw[xq];omega,by rw[List.getElem_take]⟩,m⟩
def jr(l:List C)(d:D)(k:Nat):Bool:=match d.left[k]? with|some x=>cp l x&&(!ip x d.right&&!ja (d.left.take k) x) | none=>true
theorem eR{l:List C}{d:D}{k:Nat}(hk:k<d.left.length):jr l d k=(cp l d.left[k]&&(!ip d.left[k] d.right&&!ja (d.left.take k) d.left[k])):=by
 unfold jr;rw[z6 hk]
theorem sY(l:List C)(d:D):qa l d=((decide (1<=d.left.length)&&decide (d.left.length<=3))&&(cp l d.right&&(List.range d.left.length).all (jr l d))):=by
 unfold qa fm;rw[wu];simp only[zy,xi,xd,Bool.not_eq_true'];constructor
 ·rintro⟨⟨c,b⟩,e,f⟩;refine⟨c,e,fun k a=>?_⟩
  have:=b k a
  rw[jO a]at this;rw[eR a];simp only[zy,Bool.not_eq_true']at this ⊢;refine⟨this.1,?_,this.2⟩;unfold ja at f;rw[v6]at f
  have:=f d.left[k] (z8 _)
  rw[iN];simpa using this
 rintro⟨c,e,b⟩;refine⟨⟨c,fun k a=>?_⟩,e,?_⟩
 ·have:=b k a
  rw[eR a]at this;rw[jO a];simp only[zy,Bool.not_eq_true']at this ⊢;exact⟨this.1,this.2.2⟩
 unfold ja;rw[v6];intro x g;obtain⟨k,a,rfl⟩:=xp g
 have:=b k a
 rw[eR a]at this;simp only[zy,Bool.not_eq_true']at this;rw[iN,this.2.1];decide
theorem mW(l:List ByteArray)(j:Nat)(h:j<l.length)(x:ByteArray):ja (l.take (j+1)) x=(ja (l.take j) x || ip x l[j]):=by
 unfold ja;rw[yi h,List.any_append,List.any_cons,List.any_nil,Bool.or_false]
theorem eA{x:ByteArray}{b:Bool}(h:named x=b)(w:World)(hs:x.size<=maxLen):Calls prog 151 #[.string x] w fun e w'=>e=.returned (.bool b)/\Below w.heap.size w w':=h▸sP x w hs
theorem qJ(l:List C)(x:ByteArray):decide (fx l x<0)=!cp l x:=by
 rcases cD l x with ⟨a,b,_⟩ | ⟨j,_,a,b,_⟩
 ·rw[a,b];rfl
 rw[a,b];simp
theorem Fi(l:List T)(x:ByteArray):decide (0<=jz l x)=fe l x:=by
 rcases bW l x with ⟨a,b,_⟩ | ⟨j,_,a,b,_⟩
 ·rw[a,b];rfl
 rw[a,b];simp
theorem vU{t:T}{cv dv v:Value}{ts:List T}{W:World}(h:dw W cv dv t)(hs:iq W v ts)(hsm:t6 t):Calls prog 122 #[v,.agg #[.string t.nm,cv,.string t.key,dv]] W fun e w'=>e=.returned (.bool (aq ts t))/\Below W.heap.size W w':=by
 have HK:=aa (ep.new h);have b2:=hs.later (aD W (ar t.nm cv t.key dv));obtain⟨pc,G,c5,hc,hm⟩:=h.c.slice;obtain⟨p,o,c6,e3,e4⟩:=h.d.slice;obtain⟨n,hn⟩:=ae t.cols.length;obtain⟨nd,b3⟩:=ae t.deps.length;obtain⟨B,hB⟩:=ae W.heap.size;unfold maxLen at hm e4;rw[b3]at c6 e3;rw[hn]at c5 hc;subst c5 c6;have HN:=aa (ab hn b3);rw[hB]at HK;have A:=aa hB;have SM:=aa (ab hsm.1 hsm.2);obtain⟨w0,b4⟩:=ae (W.alloc (ar t.nm (.slice pc n G) t.key (.slice p nd o)));rw[b4]at b2 HK;have HW:=aa b4;have c7:=aa b2;obtain⟨c8,z0,z1,z2,z3⟩:=HK.out.cells;have E:=Fi ts t.nm;have L:=(fun(w:World) (s:Below w0.heap.size w0 w)=>cW (x:=t.nm) (c7.out.later s));clear h hs b2 hn b3 hB b4 hsm;cases Q:named t.nm
 ·have I:Hid (aq ts t=false):=aa (by unfold aq free;rw[Q];rfl);clear E L;go_enter func122,ntmps122;go_upto_region 1 with fail;rw[HW.out,A.out];go_wp2_with (go_at_call 151;refine(eA Q _ SM.1).mono ?_;rintro e w1⟨rfl,s⟩);go_ret;exact⟨aH I.out.symm,A.out▸(HK.out.on s).below⟩
 cases V:fe ts t.nm
 rotate_left
 ·have I:Hid (aq ts t=false):=aa (by unfold aq free;rw[Q,V];rfl);rw[V]at E;generalize jz ts t.nm=z at E L;have hz:0<=z:=wf E;clear E V;go_enter func122,ntmps122;go_upto_region 1 with fail;rw[HW.out,A.out]
  go_wp2_with (first|(go_at_call 151;refine(eA Q _ SM.1).mono ?_;rintro e w1⟨rfl,s⟩;have K1:=aa (HK.out.on s);obtain⟨u0,u1,u2,u3,u4⟩:=K1.out.cells;have hf:=L _ s;clear L)|(go_at_call 56;refine hf.mono ?_;rintro e w2⟨rfl,rfl⟩))
  go_ret;exact⟨aH I.out.symm,A.out▸K1.out.below⟩
 have HL:Hid (aq ts t=(jl t.cols&&(bm t&&jd t.cols t.deps))):=aa (by unfold aq free;rw[Q,V];rfl);rw[V]at E;generalize jz ts t.nm=z at E L;have hz:¬ 0<=z:=of_decide_eq_false E;clear E V;go_enter func122,ntmps122;go_upto_region 1 with fail;rw[HW.out,A.out]
 go_wp2_with (first|(go_at_call 151;refine(eA Q _ SM.1).mono ?_;rintro e w1⟨rfl,s⟩;have K1:=aa (HK.out.on s);obtain⟨u0,u1,u2,u3,u4⟩:=K1.out.cells;have hf:=L _ s;clear L)|(go_at_call 56;refine hf.mono ?_;rintro e w2⟨rfl,rfl⟩))
 clear Q hz hf c7 z0 z1 z2 z3 c8 u0 u1 u2 u3 u4 HK;go_loopg [5] (n+1) (fun gh jv w=>∃(j:Nat),jv=.int .i64 (j:Int)/\j<=n/\n+1<=j+gh/\(∀i,i<j->js t.cols i=true)/\ep B W B t (.slice pc n G) (.slice p nd o) w)
 case atStart=>exact⟨0,rfl,zj _,by omega,fun i hi=>by omega,K1.out⟩
 obtain⟨j,rfl,hj,hg,c9,H⟩:=hrel;have HI:=aa (ab c9 H);clear c9;obtain⟨u0,_,u2,u3,u4⟩:=H.cells;by_cases e5:j<n
 ·have a0:j<t.cols.length:=(by rw[HN.1];exact e5);obtain⟨b,f,rfl,d0,_⟩:=fj.col H.tab.c a0;have M:=sX a0;obtain⟨c,a6⟩:=ae (t.cols[j]);have HC:Hid (∀w,fj w (.slice (some ⟨b,f,none⟩) n G) t.cols->w.cell? ⟨b,f+j*4,none⟩=some (.string c.nm)):=aa (fun w O=>by rw[<-a6];exact(fj.Ar O a0).2.1);have b5:c.nm.size<=maxLen:=SM.2 c (by rw[<-a6];exact z8 _);rw[a6]at M;have e9:(j:Int)<(n:Int):=(by omega);clear H a6 d0;go_upto_region 6 with fail;cases X:named c.nm
  ·have I:Hid (js t.cols j=false):=aa (by rw[M,X];rfl);clear M;refine Par.ag 20 [.pointer (some ⟨B,1,none⟩),.slice (some ⟨b,f,none⟩) n G,.int .i64 j,.pointer (some ⟨b,f+j*4,none⟩),.pointer (some ⟨b,f+j*4,none⟩),.string c.nm,.bool false,.bool true,.bool true,undef,undef,undef,undef,undef,undef,undef,undef,undef,undef,.bool true] (ep B W B t (.slice (some ⟨b,f,none⟩) n G) (.slice p nd o)) ?A1 ?hm1 ?hB1 ?hA1 (HI.2.on (aG wr)) ?hop1 ?hT1
   case hm1=>kernel_rfl
   case hB1=>kernel_rfl
   case hA1 =>
    simp only[Par.am,Par.ai,Act.put,eh,ez,dz,eo,ew,ey,ed,ic,gy];rfl
   case hop1 =>
    simp only[en,zh,Par.ah,yo];and_intros<;>intro w' a<;>have F:=aa a
    rotate_left;have k:=a.cells.2.2.1;rotate_left 4;have k:=HC.out w' a.tab.c;rotate_left
    ·clear a;simp only[Par.Gives];go_simp;exact(eA X w' b5).mono (fun e R⟨J,s⟩=>⟨J,F.out.on s⟩)
    rotate_left 13
    all_goals(clear a;simp only[Par.Gives];go_simp;all_goals exact F.out)
   intro w' a;simp only[ex,ym];go_wp2_with fail;go_ret;exact⟨aH (by rw[HL.out];unfold jl;rw[bC j a0 I.out];rfl),A.out▸a.below⟩
  have r:=(fun(w:World) (O:dw w (.slice (some ⟨b,f,none⟩) n G) (.slice p nd o) t)=>bT (x:=c.nm) O);obtain⟨z,b6⟩:=ae (fx t.cols c.nm);rw[b6]at r M;by_cases a7:z=(j:Int)
  ·have I:Hid (js t.cols j=true):=aa (by rw[M,X,yy a7];rfl);subst a7;clear M b6;refine Par.ag 20 [.pointer (some ⟨B,1,none⟩),.slice (some ⟨b,f,none⟩) n G,.int .i64 j,.pointer (some ⟨b,f+j*4,none⟩),.pointer (some ⟨b,f+j*4,none⟩),.string c.nm,.bool true,.bool false,.bool false,.agg #[.string t.nm,.slice (some ⟨b,f,none⟩) n G,.string t.key,.slice p nd o],.pointer (some ⟨B,1,none⟩),.slice (some ⟨b,f,none⟩) n G,.int .i64 j,.pointer (some ⟨b,f+j*4,none⟩),.pointer (some ⟨b,f+j*4,none⟩),.string c.nm,.int .i64 j,.int .i64 j,.bool false,.bool false] (ep B W B t (.slice (some ⟨b,f,none⟩) n G) (.slice p nd o)) ?A2 ?hm2 ?hB2 ?hA2 (HI.2.on (aG wr)) ?hop2 ?hT2
   case hm2=>kernel_rfl
   case hB2=>kernel_rfl
   case hA2 =>
    simp only[Par.am,Par.ai,Act.put,eh,ez,dz,eo,ew,ey,ed,ic,gy];rfl
   case hop2 =>
    simp only[en,zh,Par.ah,yo];and_intros<;>intro w' a<;>have F:=aa a
    rotate_left;have k:=a.cells.2.2.1;rotate_left 4;have k:=HC.out w' a.tab.c;rotate_left
    ·clear a;simp only[Par.Gives];go_simp;exact(eA X w' b5).mono (fun e R⟨J,s⟩=>⟨J,F.out.on s⟩)
    rotate_left 2;have k0:=a.cells.1;have k1:=a.cells.2.1;have k2:=a.cells.2.2.1;have k3:=a.cells.2.2.2.1;have k4:=a.cells.2.2.2.2;rotate_left 2;have k:=a.cells.2.2.1;rotate_left 4;have k:=HC.out w' a.tab.c;rotate_left
    ·clear a;simp only[Par.Gives];go_simp;exact(r _ F.out.tab).mono (fun e R⟨J,s⟩=>⟨J,F.out.on s⟩)
    rotate_left 3
    all_goals(clear a;simp only[Par.Gives];go_simp;all_goals exact F.out)
   intro w' a;simp only[ex,ym];go_wp2_with fail;go_roundg (n-j)
   case measure=>omega
   exact⟨j+1,by go_num,by omega,by omega,fun i hi=>by rcases(by omega:i<j∨i=j)with h|rfl;exact HI.1 i h;exact I.out,a⟩
  have I:Hid (js t.cols j=false):=aa (by rw[M,X,yp a7];rfl);have e1:(z==(j:Int))=false:=beq_eq_false_iff_ne.2 a7;clear M b6;refine Par.ag 20 [.pointer (some ⟨B,1,none⟩),.slice (some ⟨b,f,none⟩) n G,.int .i64 j,.pointer (some ⟨b,f+j*4,none⟩),.pointer (some ⟨b,f+j*4,none⟩),.string c.nm,.bool true,.bool false,.bool false,.agg #[.string t.nm,.slice (some ⟨b,f,none⟩) n G,.string t.key,.slice p nd o],.pointer (some ⟨B,1,none⟩),.slice (some ⟨b,f,none⟩) n G,.int .i64 j,.pointer (some ⟨b,f+j*4,none⟩),.pointer (some ⟨b,f+j*4,none⟩),.string c.nm,.int .i64 z,.int .i64 j,.bool true,.bool true] (ep B W B t (.slice (some ⟨b,f,none⟩) n G) (.slice p nd o)) ?A3 ?hm3 ?hB3 ?hA3 (HI.2.on (aG wr)) ?hop3 ?hT3
  case hm3=>kernel_rfl
  case hB3=>kernel_rfl
  case hA3 =>
   simp only[Par.am,Par.ai,Act.put,eh,ez,dz,eo,ew,ey,ed,ic,gy];rfl
  case hop3 =>
   simp only[en,zh,Par.ah,yo];and_intros<;>intro w' a<;>have F:=aa a
   rotate_left;have k:=a.cells.2.2.1;rotate_left 4;have k:=HC.out w' a.tab.c;rotate_left
   ·clear a;simp only[Par.Gives];go_simp;exact(eA X w' b5).mono (fun e R⟨J,s⟩=>⟨J,F.out.on s⟩)
   rotate_left 2;have k0:=a.cells.1;have k1:=a.cells.2.1;have k2:=a.cells.2.2.1;have k3:=a.cells.2.2.2.1;have k4:=a.cells.2.2.2.2;rotate_left 2;have k:=a.cells.2.2.1;rotate_left 4;have k:=HC.out w' a.tab.c;rotate_left
   ·clear a;simp only[Par.Gives];go_simp;exact(r _ F.out.tab).mono (fun e R⟨J,s⟩=>⟨J,F.out.on s⟩)
   rotate_left 3
   all_goals(clear a;simp only[Par.Gives];go_simp;all_goals exact F.out)
  intro w' a;simp only[ex,ym];go_wp2_with fail;go_ret;exact⟨aH (by rw[HL.out];unfold jl;rw[bC j a0 I.out];rfl),A.out▸a.below⟩
 have d1:Hid (aq ts t=(bm t&&jd t.cols t.deps)):=aa (by rw[HL.out];unfold jl;rw[bQ (fun i hi=>HI.1 i (by have:=HN.1;omega))];rfl);go_upto_region 8 with fail
 go_cut [57]from 300 to 300 (fun gv wx=>gv=.bool (!bm t)/\ep B W B t (.slice pc n G) (.slice p nd o) wx)
 case first =>
  cases hk:ip t.key e0
  ·have J:t.key.toList.isEmpty=false:=(by rw[cK];exact hk);have r:=bT (x:=t.key) H.tab;have g:=qJ t.cols t.key;have I:Hid (bm t=cp t.cols t.key):=aa (by unfold bm;rw[hk];rfl);generalize fx t.cols t.key=z at r g;cases P:cp t.cols t.key
   ·rw[P]at g I;have hz:z<0:=wf g;clear H hk g P;go_wp2_with (go_at_call 97;refine r.mono ?_;rintro e w2⟨rfl,s⟩);go_meet;exact⟨by rw[I.out];rfl,HI.2.on s⟩
   rw[P]at g I;have hz:¬ z<0:=of_decide_eq_false g;clear H hk g P;go_wp2_with (go_at_call 97;refine r.mono ?_;rintro e w2⟨rfl,s⟩);go_meet;exact⟨by rw[I.out];simp;omega,HI.2.on s⟩
  have J:t.key.toList.isEmpty=true:=(by rw[cK];exact hk);have I:Hid (bm t=true):=aa (by unfold bm;rw[hk];rfl);clear H hk;go_wp2_with fail;go_meet;exact⟨by rw[I.out];rfl,HI.2⟩
 obtain⟨rfl,d2⟩:=hcut;have K8:=aa d2;clear d2 H u0 u2 u3 u4;cases b7:bm t
 ·go_wp2_with fail;go_ret;exact⟨aH (by rw[d1.out,b7];rfl),A.out▸K8.out.below⟩
 have d3:Hid (aq ts t=jd t.cols t.deps):=aa (by rw[d1.out,b7];rfl);clear b7;go_wp2_with fail;go_loopg [6] (nd+1) (fun gh jv w=>∃(j:Nat),jv=.int .i64 (j:Int)/\j<=nd/\nd+1<=j+gh/\(∀i,i<j->jo t.cols t.deps i=true)/\ep B W B t (.slice pc n G) (.slice p nd o) w)
 case atStart=>exact⟨0,rfl,zj _,by omega,fun i hi=>by omega,K8.out⟩
 obtain⟨Y,rfl,f0,f1,a8,H⟩:=hrel;have b8:=aa (ab a8 H);clear a8;obtain⟨u0,_,u2,u3,u4⟩:=H.cells;by_cases d4:Y<nd
 ·have a1:Y<t.deps.length:=(by rw[HN.2];exact d4);obtain⟨b,f,lv,rfl,s,c0,c1,a2⟩:=px.dep H.tab.d a1;obtain⟨d,b9⟩:=ae (t.deps[Y])
  have M:jo t.cols t.deps Y=((decide (1<=d.left.length)&&decide (d.left.length<=3))&&(cp t.cols d.right&&(List.range d.left.length).all (jr t.cols d))):=by
   unfold jo;rw[z6 a1,b9];exact sY _ _
  rw[b9]at c1 a2;obtain⟨pl,cl,rfl,d5,d6⟩:=a2.slice;unfold maxLen at d6;obtain⟨nl,c2⟩:=ae d.left.length;rw[c2]at a2 c0 M d5;have HD:=aa (it.new H a2);have d7:=aa c2;clear b9 H a2 c2;go_upto_region 14 with fail;obtain⟨S,hS⟩:=ae wr.heap.size;obtain⟨w1,d8⟩:=ae (wr.alloc (.cells #[.slice pl nl cl,.string d.right] 155));rw[d8,hS]at HD ⊢;clear d8 hS c0 c1 s u0 u2 u3 u4;obtain⟨y0,y1,y2⟩:=HD.out.cells;obtain⟨u0,u1,u2,u3,u4⟩:=HD.out.tb.cells;have a9:jo t.cols t.deps Y=false->aq ts t=false:=(fun h=>by rw[d3.out];exact bC Y a1 h);have U:=aa a9;clear a9;by_cases h1:nl<1
  ·have I:Hid (jo t.cols t.deps Y=false):=aa (by rw[M,yp (show ¬ 1<=nl by omega)];rfl);clear M;go_wp2_with fail;go_ret;exact⟨aH (U.out I.out).symm,A.out▸HD.out.tb.below⟩
  by_cases h3:3<nl
  ·have I:Hid (jo t.cols t.deps Y=false):=aa (by rw[M,yp (show ¬ nl<=3 by omega),Bool.and_false];rfl);clear M;go_wp2_with fail;go_ret;exact⟨aH (U.out I.out).symm,A.out▸HD.out.tb.below⟩
  rw[yy (show 1<=nl by omega),yy (show nl<=3 by omega),ve,ve]at M;have r:=bT (x:=d.right) HD.out.tb.tab;have g:=qJ t.cols d.right;generalize fx t.cols d.right=z at r g;cases P:cp t.cols d.right
  ·rw[P]at g M;have hz:z<0:=wf g;have I:Hid (jo t.cols t.deps Y=false):=aa M;clear g P M;go_wp2_with (go_at_call 97;refine r.mono ?_;rintro e w2⟨rfl,s⟩);go_ret;exact⟨aH (U.out I.out).symm,A.out▸(HD.out.on s).tb.below⟩
  rw[P,ve]at M;rw[P]at g;have hz:¬ z<0:=of_decide_eq_false g;have I:=aa M;clear g P M;go_wp2_with (go_at_call 97;refine r.mono ?_;rintro e w2⟨rfl,s⟩;have K2:=aa (HD.out.on s);clear s);clear hz r y0 y1 y2 u0 u1 u2 u3 u4;go_loopg [8] (nl+1) (fun gh kv w=>∃(k:Nat),kv=.int .i64 (k:Int)/\k<=nl/\nl+1<=k+gh/\(∀i,i<k->jr t.cols d i=true)/\it B W B S t (.slice pc n G) (.slice (some ⟨b,f,none⟩) nd o) d (.slice pl nl cl) w)
  case atStart=>exact⟨0,rfl,zj _,by omega,fun i hi=>by omega,K2.out⟩
  obtain⟨k,rfl,hk,f2,b0,H⟩:=hrel;have a3:=aa (ab b0 H);clear b0;obtain⟨y0,y1,y2⟩:=H.cells;obtain⟨u0,_,u2,u3,u4⟩:=H.tb.cells;by_cases b1:k<nl
  ·have c3:k<d.left.length:=(by rw[d7.out];exact b1);obtain⟨bl,ol,rfl,d0,_⟩:=kh.word H.left c3;have N:=eR (l:=t.cols) c3;obtain⟨x,hx⟩:=ae (d.left[k]);have HX:Hid (∀w,kh w (.slice (some ⟨bl,ol,none⟩) nl cl) d.left->w.cell? ⟨bl,ol+k,none⟩=some (.string x)):=aa (fun w O=>by rw[<-hx];exact(kh.uw O c3).2);rw[hx]at N;have f3:(k:Int)<(nl:Int):=(by omega);have r:=(fun(w:World) (O:dw w (.slice pc n G) (.slice (some ⟨b,f,none⟩) nd o) t)=>bT (x:=x) O);have g:=qJ t.cols x;generalize fx t.cols x=z at r g;have a4:jr t.cols d k=false->aq ts t=false:=(fun h=>U.out (by rw[I.out];exact bC k b1 h));have c4:=aa a4;clear H hx a4;go_upto_region 19 with fail;clear y0 y1 y2 u0 u2 u3 u4;cases P:cp t.cols x
   ·rw[P]at g N;have hz:z<0:=wf g;have Z:Hid (jr t.cols d k=false):=aa N;clear g N P;refine Par.ag 18 [.agg #[.string t.nm,.slice pc n G,.string t.key,.slice (some ⟨b,f,none⟩) nd o],.pointer (some ⟨S,0,none⟩),.slice (some ⟨bl,ol,none⟩) nl cl,.int .i64 k,.pointer (some ⟨bl,ol+k,none⟩),.string x,.int .i64 z,.bool true,.bool true,undef,undef,undef,undef,undef,undef,undef,undef,.bool true] (it B W B S t (.slice pc n G) (.slice (some ⟨b,f,none⟩) nd o) d (.slice (some ⟨bl,ol,none⟩) nl cl)) ?A4 ?hm4 ?hB4 ?hA4 (a3.2.on (aG wr)) ?hop4 ?hT4
    case hm4=>kernel_rfl
    case hB4=>kernel_rfl
    case hA4 =>
     simp only[Par.am,Par.ai,Act.put,eh,ez,dz,eo,ew,ey,ed,ic,gy];rfl
    case hop4 =>
     simp only[en,zh,Par.ah,yo];and_intros<;>intro w' a<;>have F:=aa a
     have k0:=a.tb.cells.1;have k1:=a.tb.cells.2.1;have k2:=a.tb.cells.2.2.1;have k3:=a.tb.cells.2.2.2.1;have k4:=a.tb.cells.2.2.2.2;rotate_left 2;have k:=a.cells.2.1;rotate_left 3;have k:=HX.out w' a.left;rotate_left
     ·clear a;simp only[Par.Gives];go_simp;exact(r _ F.out.tb.tab).mono (fun e R⟨J,s⟩=>⟨J,F.out.on s⟩)
     rotate_left 11
     all_goals(clear a;simp only[Par.Gives];go_simp;all_goals exact F.out)
    intro w' a;simp only[ex,ym];go_wp2_with fail;go_ret;exact⟨aH (c4.out Z.out).symm,A.out▸a.tb.below⟩
   rw[P,ve]at N;rw[P]at g;have hz:¬ z<0:=of_decide_eq_false g;clear g P;cases O:ip x d.right
   rotate_left
   ·have e1:(x.toList==d.right.toList)=true:=(by rw[aQ];exact O);have Z:Hid (jr t.cols d k=false):=aa (by rw[N,O];rfl);clear N O;refine Par.ag 18 [.agg #[.string t.nm,.slice pc n G,.string t.key,.slice (some ⟨b,f,none⟩) nd o],.pointer (some ⟨S,0,none⟩),.slice (some ⟨bl,ol,none⟩) nl cl,.int .i64 k,.pointer (some ⟨bl,ol+k,none⟩),.string x,.int .i64 z,.bool false,.bool false,.pointer (some ⟨S,0,none⟩),.slice (some ⟨bl,ol,none⟩) nl cl,.int .i64 k,.pointer (some ⟨bl,ol+k,none⟩),.string x,.pointer (some ⟨S,1,none⟩),.string d.right,.bool true,.bool true] (it B W B S t (.slice pc n G) (.slice (some ⟨b,f,none⟩) nd o) d (.slice (some ⟨bl,ol,none⟩) nl cl)) ?A5 ?hm5 ?hB5 ?hA5 (a3.2.on (aG wr)) ?hop5 ?hT5
    case hm5=>kernel_rfl
    case hB5=>kernel_rfl
    case hA5 =>
     simp only[Par.am,Par.ai,Act.put,eh,ez,dz,eo,ew,ey,ed,ic,gy];rfl
    case hop5 =>
     simp only[en,zh,Par.ah,yo];and_intros<;>intro w' a<;>have F:=aa a
     have k0:=a.tb.cells.1;have k1:=a.tb.cells.2.1;have k2:=a.tb.cells.2.2.1;have k3:=a.tb.cells.2.2.2.1;have k4:=a.tb.cells.2.2.2.2;rotate_left 2;have k:=a.cells.2.1;rotate_left 3;have k:=HX.out w' a.left;rotate_left
     ·clear a;simp only[Par.Gives];go_simp;exact(r _ F.out.tb.tab).mono (fun e R⟨J,s⟩=>⟨J,F.out.on s⟩)
     rotate_left 3;have k:=a.cells.2.1;rotate_left 3;have k:=HX.out w' a.left;rotate_left 2;have k:=a.cells.2.2;rotate_left 3
     all_goals(clear a;simp only[Par.Gives];go_simp;all_goals exact F.out)
    intro w' a;simp only[ex,ym];go_wp2_with fail;go_ret;exact⟨aH (c4.out Z.out).symm,A.out▸a.tb.below⟩
   have e1:(x.toList==d.right.toList)=false:=(by rw[aQ];exact O);have Z:Hid (jr t.cols d k=!ja (d.left.take k) x):=aa (by rw[N,O];rfl);clear N O;refine Par.ag 18 [.agg #[.string t.nm,.slice pc n G,.string t.key,.slice (some ⟨b,f,none⟩) nd o],.pointer (some ⟨S,0,none⟩),.slice (some ⟨bl,ol,none⟩) nl cl,.int .i64 k,.pointer (some ⟨bl,ol+k,none⟩),.string x,.int .i64 z,.bool false,.bool false,.pointer (some ⟨S,0,none⟩),.slice (some ⟨bl,ol,none⟩) nl cl,.int .i64 k,.pointer (some ⟨bl,ol+k,none⟩),.string x,.pointer (some ⟨S,1,none⟩),.string d.right,.bool false,.bool false] (it B W B S t (.slice pc n G) (.slice (some ⟨b,f,none⟩) nd o) d (.slice (some ⟨bl,ol,none⟩) nl cl)) ?A6 ?hm6 ?hB6 ?hA6 (a3.2.on (aG wr)) ?hop6 ?hT6
   case hm6=>kernel_rfl
   case hB6=>kernel_rfl
   case hA6 =>
    simp only[Par.am,Par.ai,Act.put,eh,ez,dz,eo,ew,ey,ed,ic,gy];rfl
   case hop6 =>
    simp only[en,zh,Par.ah,yo];and_intros<;>intro w' a<;>have F:=aa a
    have k0:=a.tb.cells.1;have k1:=a.tb.cells.2.1;have k2:=a.tb.cells.2.2.1;have k3:=a.tb.cells.2.2.2.1;have k4:=a.tb.cells.2.2.2.2;rotate_left 2;have k:=a.cells.2.1;rotate_left 3;have k:=HX.out w' a.left;rotate_left
    ·clear a;simp only[Par.Gives];go_simp;exact(r _ F.out.tb.tab).mono (fun e R⟨J,s⟩=>⟨J,F.out.on s⟩)
    rotate_left 3;have k:=a.cells.2.1;rotate_left 3;have k:=HX.out w' a.left;rotate_left 2;have k:=a.cells.2.2;rotate_left 3
    all_goals(clear a;simp only[Par.Gives];go_simp;all_goals exact F.out)
   intro w' a;simp only[ex,ym];have e6:=aa a;clear a e1 hz r;go_wp2_with fail;go_loopg [9] (k+1) (fun gh mv w=>∃(m:Nat),mv=.int .i64 (m:Int)/\m<=k/\k+1<=m+gh/\ja (d.left.take m) x=false/\it B W B S t (.slice pc n G) (.slice (some ⟨b,f,none⟩) nd o) d (.slice (some ⟨bl,ol,none⟩) nl cl) w)
   case atStart=>exact⟨0,rfl,zj _,by omega,rfl,e6.out⟩
   obtain⟨m,rfl,f4,f5,a5,H⟩:=hrel;by_cases e8:m<k
   ·have d9:m<d.left.length:=(by rw[d7.out];omega);obtain⟨y,hy⟩:=ae (d.left[m]);have HY:Hid (∀w,kh w (.slice (some ⟨bl,ol,none⟩) nl cl) d.left->w.cell? ⟨bl,ol+m,none⟩=some (.string y)):=aa (fun w O=>by rw[<-hy];exact(kh.uw O d9).2);have u:=mW d.left m d9 x;rw[hy,a5,Bool.false_or]at u;have f6:(m:Int)<(nl:Int):=(by omega);have HK:=aa H;clear H hy a5;go_upto_region 24 with fail;cases J:ip x y
    ·have e2:(y.toList==x.toList)=false:=(by rw[aQ,iN];exact J);have HE:Hid (ja (d.left.take (m+1)) x=false):=aa (by rw[u];exact J);clear u J;refine Par.ag 11 [.pointer (some ⟨S,0,none⟩),.slice (some ⟨bl,ol,none⟩) nl cl,.int .i64 m,.pointer (some ⟨bl,ol+m,none⟩),.string y,.pointer (some ⟨S,0,none⟩),.slice (some ⟨bl,ol,none⟩) nl cl,.int .i64 k,.pointer (some ⟨bl,ol+k,none⟩),.string x,.bool false] (it B W B S t (.slice pc n G) (.slice (some ⟨b,f,none⟩) nd o) d (.slice (some ⟨bl,ol,none⟩) nl cl)) ?A7 ?hm7 ?hB7 ?hA7 (HK.out.on (aG wr)) ?hop7 ?hT7
     case hm7=>kernel_rfl
     case hB7=>kernel_rfl
     case hA7 =>
      simp only[Par.am,Par.ai,Act.put,eh,ez,dz,eo,ew,ey,ed,ic,gy];rfl
     case hop7 =>
      simp only[en,zh,Par.ah,yo];and_intros<;>intro w' a<;>have F:=aa a
      rotate_left;have k:=a.cells.2.1;rotate_left 3;have k:=HY.out w' a.left;rotate_left 2;have k:=a.cells.2.1;rotate_left 3;have k:=HX.out w' a.left;rotate_left 2
      all_goals(clear a;simp only[Par.Gives];go_simp;all_goals exact F.out)
     intro w' a;simp only[ex,ym];go_wp2_with fail;go_roundg (k-m)
     case measure=>omega
     exact⟨m+1,by go_num,by omega,by omega,HE.out,a⟩
    have e2:(y.toList==x.toList)=true:=by rw[aQ,iN];exact J
    have HE:Hid (ja (d.left.take k) x=true):=aa (by
     unfold ja;rw[vd];rw[J]at u;unfold ja at u;rw[vd]at u;obtain⟨q,hq,e7⟩:=u;exact⟨q,(List.take_subset_take_left d.left (by omega)) hq,e7⟩)
    clear u J;refine Par.ag 11 [.pointer (some ⟨S,0,none⟩),.slice (some ⟨bl,ol,none⟩) nl cl,.int .i64 m,.pointer (some ⟨bl,ol+m,none⟩),.string y,.pointer (some ⟨S,0,none⟩),.slice (some ⟨bl,ol,none⟩) nl cl,.int .i64 k,.pointer (some ⟨bl,ol+k,none⟩),.string x,.bool true] (it B W B S t (.slice pc n G) (.slice (some ⟨b,f,none⟩) nd o) d (.slice (some ⟨bl,ol,none⟩) nl cl)) ?A8 ?hm8 ?hB8 ?hA8 (HK.out.on (aG wr)) ?hop8 ?hT8
    case hm8=>kernel_rfl
    case hB8=>kernel_rfl
    case hA8 =>
     simp only[Par.am,Par.ai,Act.put,eh,ez,dz,eo,ew,ey,ed,ic,gy];rfl
    case hop8 =>
     simp only[en,zh,Par.ah,yo];and_intros<;>intro w' a<;>have F:=aa a
     rotate_left;have k:=a.cells.2.1;rotate_left 3;have k:=HY.out w' a.left;rotate_left 2;have k:=a.cells.2.1;rotate_left 3;have k:=HX.out w' a.left;rotate_left 2
     all_goals(clear a;simp only[Par.Gives];go_simp;all_goals exact F.out)
    intro w' a;simp only[ex,ym];go_wp2_with fail;go_ret;exact⟨aH (c4.out (by rw[Z.out,HE.out];rfl)).symm,A.out▸a.tb.below⟩
   obtain rfl:m=k:=(by omega);go_wp2_with fail;go_roundg (nl-m)
   case measure=>omega
   exact⟨m+1,by go_num,by omega,by omega,fun i hi=>by rcases(by omega:i<m∨i=m)with h|rfl;exact a3.1 i h;rw[Z.out,a5];rfl,H⟩
  obtain rfl:k=nl:=(by omega);go_wp2_with fail;go_roundg (nd-Y)
  case measure=>omega
  exact⟨Y+1,by go_num,by omega,by omega,fun i hi=>by rcases(by omega:i<Y∨i=Y)with h|rfl;exact b8.1 i h;rw[I.out];exact bQ a3.1,H.tb⟩
 go_wp2_with fail;go_ret;exact⟨aH (by rw[d3.out];exact(bQ (fun i hi=>b8.1 i (by have:=HN.2;omega))).symm),A.out▸b8.2.below⟩
theorem oT{t:T}{cv dv v:Value}{ts:List T}{W:World}{b:Bool}(h:dw W cv dv t)(hs:iq W v ts)(hsm:t6 t)(hb:aq ts t=b):Calls prog 122 #[v,.agg #[.string t.nm,cv,.string t.key,dv]] W fun e w'=>e=.returned (.bool b)/\Below W.heap.size W w':=hb▸vU h hs hsm
theorem Hf{ts:List T}(hi:ls ts)(c:C)(hne:ip c.tgt e0=false):(jz ts c.tgt=-1/\leads ts c=3)∨∃(k:Nat) (d:k<ts.length),jz ts c.tgt=(k:Int)/\((ip ts[k].key e0=true/\leads ts c=9)∨(ip ts[k].key e0=false/\∃(q:Nat) (h:q<ts[k].cols.length),fx ts[k].cols ts[k].key=(q:Int)/\leads ts c=if ts[k].cols[q].kd=c.kd then 0 else 4)):=by
 rcases bW ts c.tgt with ⟨e,_,f⟩ | ⟨k,d,e,_,f⟩
 ·left
  refine⟨e,?_⟩;unfold leads;rw[hne,f];rfl
 right
 refine⟨k,d,e,?_⟩
 have i:leads ts c=(match dt ts[k].cols ts[k].key with|none=>(9:Int) | some q=>if q.kd=c.kd then 0 else 4):=by
  unfold leads;rw[hne,f];rfl
 have j:=z8 d;cases a:ip ts[k].key e0
 ·right
  refine⟨rfl,?_⟩;have b:=hi.key _ j;unfold bm at b;rw[a,Bool.false_or]at b;rcases cD ts[k].cols ts[k].key with ⟨_,g,_⟩ | ⟨q,h,g,_,l⟩
  ·rw[g]at b;cases b
  refine⟨q,h,g,?_⟩;rw[i,l]
 left
 refine⟨rfl,?_⟩;rw[eJ]at a;rw[i,a,DD (hi.col _ j)]
theorem Fr{t:T}{cv dv v:Value}{ts:List T}{W:World}(h:dw W cv dv t)(hs:iq W v ts)(Z:ls ts)(hsm:t6 t):Calls prog 90 #[v,.agg #[.string t.nm,cv,.string t.key,dv]] W fun e w'=>e=.returned (.int .i64 (dg ts t))/\Below W.heap.size W w':=by
 have F:=aa (show qz W.heap.size W W.heap.size t cv dv v ts _ from⟨ep.new h,hs.later (aD W (ar t.nm cv t.key dv))⟩);obtain⟨pc,cc,a9,hc,hm⟩:=h.c.slice;obtain⟨p,a2,b0,c7,c8⟩:=h.d.slice;obtain⟨pv,g,hv,b1,c9⟩:=hs.slice;obtain⟨n,hn⟩:=ae t.cols.length;obtain⟨nd,U⟩:=ae t.deps.length;obtain⟨m,I⟩:=ae ts.length;obtain⟨B,hB⟩:=ae W.heap.size;unfold maxLen at hm c8 c9;rw[U]at b0 c7;rw[hn]at a9 hc;rw[I]at hv b1;subst a9 b0 hv;have G:lim ts t=(decide (8<=m) || (decide (n<1) || (decide (6<n) || decide (3<nd)))):=(by unfold lim;rw[hn,U,I]);have HN:=aa (ab hn (ab U I));rw[hB]at F;have a:=aa hB;have SM:=aa (ab hsm Z);obtain⟨w0,a3⟩:=ae (W.alloc (ar t.nm (.slice pc n cc) t.key (.slice p nd a2)));rw[a3]at F;have HW:=aa a3;obtain⟨b2,z0,z1,z2,z3⟩:=F.out.tb.cells;clear h hs hn U I hB a3 hsm Z;by_cases N:lim ts t=true
 ·have r:Hid (dg ts t=5):=aa (by unfold dg;rw[zw N]);rw[G]at N;clear G;by_cases q1:8<=m
  ·clear N;go_enter func90,ntmps90;go_upto_region 1 with fail;rw[HW.out,a.out];go_wp2_with fail;go_ret;exact⟨aP r.out.symm,a.out▸F.out.tb.below⟩
  by_cases q2:n<1
  ·clear N;go_enter func90,ntmps90;go_upto_region 1 with fail;rw[HW.out,a.out];go_wp2_with fail;go_ret;exact⟨aP r.out.symm,a.out▸F.out.tb.below⟩
  by_cases q3:6<n
  ·clear N;go_enter func90,ntmps90;go_upto_region 1 with fail;rw[HW.out,a.out];go_wp2_with fail;go_ret;exact⟨aP r.out.symm,a.out▸F.out.tb.below⟩
  have q4:3<nd:=by
   rw[yp q1,yp q2,yp q3]at N;simpa using N
  clear N;go_enter func90,ntmps90;go_upto_region 1 with fail;rw[HW.out,a.out];go_wp2_with fail;go_ret;exact⟨aP r.out.symm,a.out▸F.out.tb.below⟩
 have HL:Hid (dg ts t=if aq ts t=true then(if db t.cols=true then dc (t.cols.map (leads ts))else 4)else 3):=aa (by unfold dg;rw[zu N]);rw[G]at N;simp only[wh,xz,not_or]at N;obtain⟨q1,q2,q3,q4⟩:=N;clear G;cases J:aq ts t
 ·have r:Hid (dg ts t=3):=aa (by rw[HL.out,J];rfl);have V:=oT F.out.tb.tab F.out.ts SM.1 J;clear J;go_enter func90,ntmps90;go_upto_region 1 with fail;rw[HW.out,a.out];go_wp2_with (go_at_call 122;refine V.mono ?_;rintro e w1⟨rfl,S⟩);go_ret;exact⟨aP r.out.symm,a.out▸(F.out.on S).tb.below⟩
 have b3:Hid (dg ts t=if db t.cols=true then dc (t.cols.map (leads ts))else 4):=aa (by rw[HL.out,J];rfl);have V:=oT F.out.tb.tab F.out.ts SM.1 J;clear J;go_enter func90,ntmps90;go_upto_region 1 with fail;rw[HW.out,a.out];go_wp2_with (go_at_call 122;refine V.mono ?_;rintro e w1⟨rfl,S⟩;have K1:=aa (F.out.on S);clear S);clear z0 z1 z2 z3 b2 q1 q2 q4 V F;go_loopg [5] (n+1) (fun gh jv w=>∃(j:Nat),jv=.int .i64 (j:Int)/\j<=n/\n+1<=j+gh/\(∀i,i<j->oo t.cols i=true)/\qz B W B t (.slice pc n cc) (.slice p nd a2) (.slice pv m g) ts w)
 case atStart=>exact⟨0,rfl,zj _,by omega,fun i Z=>by omega,K1.out⟩
 obtain⟨j,rfl,hj,hg,b4,z⟩:=hrel;have HI:=aa (ab b4 z);clear b4;obtain⟨u0,_,u2,u3,u4⟩:=z.tb.cells;by_cases d0:j<n
 ·have a4:j<t.cols.length:=(by rw[HN.1];exact d0);obtain⟨b,A,rfl,d1,_,c1,_⟩:=fj.col z.tb.tab.c a4;obtain⟨c,l⟩:=ae (t.cols[j]);have hG:=oQ a4;rw[l]at c1 hG;have r:=aa hG;clear z l hG;by_cases H:c.kd=1
  ·have e1:(c.kd != 1)=false:=(by simp[H]);have H1:=aa H;clear H;go_wp2_with fail;go_roundg (n-j)
   case measure=>omega
   exact⟨j+1,by go_num,by omega,by omega,fun i Z=>by rcases(by omega:i<j∨i=j)with h|rfl;exact HI.1 i h;rw[r.out,yy (.inl H1.out)],HI.2⟩
  have e1:(c.kd != 1)=true:=(by simp[H]);by_cases L:c.kd=2
  ·have e2:(c.kd != 2)=false:=(by simp[L]);have H2:=aa L;clear H L;go_wp2_with fail;go_roundg (n-j)
   case measure=>omega
   exact⟨j+1,by go_num,by omega,by omega,fun i Z=>by rcases(by omega:i<j∨i=j)with h|rfl;exact HI.1 i h;rw[r.out,yy (.inr H2.out)],HI.2⟩
  have e2:(c.kd != 2)=true:=(by simp[L]);have H2:Hid (¬ (c.kd=1∨c.kd=2)):=aa (fun h=>h.elim H L);clear H L;go_wp2_with fail;go_ret;exact⟨aP (by rw[b3.out];unfold db;rw[bC j a4 (by rw[r.out,yp H2.out])];rfl),a.out▸HI.2.tb.below⟩
 have b5:Hid (dg ts t=dc (t.cols.map (leads ts))):=aa (by rw[b3.out];unfold db;rw[bQ (fun i Z=>HI.1 i (by have:=HN.1;omega))];rfl);go_upto_region 10 with fail;clear u0 u2 u3 u4 z;go_wp2_with fail;go_loopg [6] (n+1) (fun gh jv w=>∃(j:Nat),jv=.int .i64 (j:Int)/\j<=n/\n+1<=j+gh/\(∀i (h:i<t.cols.length),i<j->leads ts t.cols[i]=0)/\qz B W B t (.slice pc n cc) (.slice p nd a2) (.slice pv m g) ts w)
 case atStart=>exact⟨0,rfl,zj _,by omega,fun i _ Z=>by omega,HI.2⟩
 obtain⟨i,rfl,Z,d5,a0,z⟩:=hrel;have o:=aa (ab a0 z);clear a0;obtain⟨u0,u1,u2,u3,u4⟩:=z.tb.cells;by_cases b6:i<n
 ·have b7:i<t.cols.length:=(by rw[HN.1];exact b6);obtain⟨b,A,rfl,d1,_,c1,_,c3⟩:=fj.col z.tb.tab.c b7;obtain⟨c,l⟩:=ae (t.cols[i]);rw[l]at c1 c3;have d6:(i:Int)<(n:Int):=by omega
  have b8:leads ts c=0->∀x (h:x<t.cols.length),x<i+1->leads ts t.cols[x]=0:=fun h0 x hx d7=>by
   by_cases e:x=i
   ·subst e;rw[l];exact h0
   exact o.1 x hx (by omega)
  have P:leads ts c≠0->dg ts t=leads ts c:=fun h0=>by
   have I:i<(t.cols.map (leads ts)).length:=by rw[yd];exact b7
   have:=fD (t.cols.map (leads ts)) i I (by rw[yw,l];exact h0) (fun x hx=>by rw[yw];exact o.1 x (by omega) hx)
   rw[b5.out,this,yw,l]
  have b9:=aa b8;have a5:=aa P;clear b8 P;cases M:ip c.tgt e0
  rotate_left
  ·have he:c.tgt.toList.isEmpty=true:=(by rw[cK];exact M);have a6:=aa (b9.out (by unfold leads;rw[M];rfl));clear z l M;go_wp2_with fail;go_roundg (n-i)
   case measure=>omega
   exact⟨i+1,by go_num,by omega,by omega,a6.out,o.2⟩
  have he:c.tgt.toList.isEmpty=false:=(by rw[cK];exact M);have Q:=cW (x:=c.tgt) z.ts;have d2:=Hf SM.2 c M;clear l M;rcases d2 with ⟨H,L⟩ | ⟨k,hk,H,L⟩
  ·rw[H]at Q;have r:Hid (dg ts t=3):=aa (by rw[a5.out (by rw[L];decide),L]);clear z H L;go_wp2_with (go_at_call 56;refine Q.mono ?_;rintro e w2⟨rfl,c0⟩;subst w2);go_ret;exact⟨aP r.out.symm,a.out▸o.2.tb.below⟩
  rw[H]at Q;obtain⟨s,u,d8,d9,rfl,e3,k0,k1,k2,k3,E⟩:=iq.tab z.ts hk;have e4:k<m:=(by rw[<-HN.2.2];exact hk);obtain⟨O,X⟩:=ae (ts[k]);rw[X]at k0 k2 E;simp only[X]at L;obtain⟨pk,ck,rfl,_,_⟩:=E.c.slice;obtain⟨c2,c4,rfl,_,_⟩:=E.d.slice;rcases L with ⟨h3,h4⟩ | ⟨h3,q,hq,h5,h6⟩
  ·have d3:O.key.toList.isEmpty=true:=(by rw[cK];exact h3);have r:Hid (dg ts t=9):=aa (by rw[a5.out (by rw[h4];decide),h4]);clear z H h3 h4 E X hk;go_wp2_with (go_at_call 56;refine Q.mono ?_;rintro e w2⟨rfl,c0⟩;subst w2);go_ret;exact⟨aP r.out.symm,a.out▸o.2.tb.below⟩
  have d3:O.key.toList.isEmpty=false:=(by rw[cK];exact h3);obtain⟨kb,ko,rfl,e5,_,g1,_,_⟩:=fj.col E.c hq;have Y:=(fun(w:World) (S:Below wr.heap.size wr w)=>bT (x:=O.key) (E.later S));rw[h5]at Y;obtain⟨lk,a7⟩:=ae O.cols.length;obtain⟨c5,a1⟩:=ae O.deps.length;obtain⟨kq,a8⟩:=ae (O.cols[q]);rw[a8]at g1;simp only[a8]at h6;rw[a7]at hq;simp only[a7,a1]at Y k1 k3;have c6:=aa Y;clear Y;have e6:(q:Int)<(lk:Int):=(by omega);have e7:(k:Int)<(m:Int):=(by omega);clear z H h3 h5 E X hk a8 a7 a1 hq;go_upto_region 19 with (go_at_call 56;(with_reducible refine Q.mono ?_);rintro e w2⟨rfl,c0⟩;subst w2);by_cases R:kq.kd=c.kd
  ·have a6:=aa (b9.out (by rw[h6,zw R]));rw[R]at g1;clear h6 R;refine Par.ag 25 [.slice (some ⟨s,u,none⟩) m g,.int .i64 k,.pointer (some ⟨s,u+k*4,none⟩),.pointer (some ⟨s,u+k*4+1,none⟩),.slice (some ⟨kb,ko,none⟩) lk ck,.slice (some ⟨s,u,none⟩) m g,.int .i64 k,.pointer (some ⟨s,u+k*4,none⟩),.agg #[.string O.nm,.slice (some ⟨kb,ko,none⟩) lk ck,.string O.key,.slice c2 c5 c4],.slice (some ⟨s,u,none⟩) m g,.int .i64 k,.pointer (some ⟨s,u+k*4,none⟩),.pointer (some ⟨s,u+k*4+2,none⟩),.string O.key,.int .i64 q,.pointer (some ⟨kb,ko+q*4,none⟩),.pointer (some ⟨kb,ko+q*4+1,none⟩),.int .i64 c.kd,.pointer (some ⟨B,1,none⟩),.slice (some ⟨b,A,none⟩) n cc,.int .i64 i,.pointer (some ⟨b,A+i*4,none⟩),.pointer (some ⟨b,A+i*4+1,none⟩),.int .i64 c.kd,.bool false] (fun w=>Below wr.heap.size wr w) ?A1 ?hm1 ?hB1 ?hA1 (aG wr) ?hop1 ?hT1
   case hm1=>kernel_rfl
   case hB1=>kernel_rfl
   case hA1 =>
    simp only[Par.am,Par.ai,Act.put,eh,ez,dz,eo,ew,ey,ed,ic,gy];rfl
   case hop1 =>
    simp only[en,zh,Par.ah,yo];and_intros<;>intro w' f<;>have HR:=aa f
    rotate_left 4;have y:=aK f k1;rotate_left 4;have y0:=aK f k0;have y1:=aK f k1;have y2:=aK f k2;have y3:=aK f k3;rotate_left 5;have y:=aK f k2;rotate_left
    ·clear f;simp only[Par.Gives];go_simp;exact(c6.out w' HR.out).mono (fun e d4⟨he,S⟩=>⟨he,aC HR.out S⟩)
    rotate_left 2;have y:=aK f g1;rotate_left 2;have y:=aK f u2;rotate_left 4;have y:=aK f c1;rotate_left 2
    all_goals(clear f;simp only[Par.Gives];go_simp;all_goals exact HR.out)
   intro w' f;simp only[ex,ym];go_wp2_with fail;go_roundg (n-i)
   case measure=>omega
   exact⟨i+1,by go_num,by omega,by omega,a6.out,o.2.on f⟩
  have r:Hid (dg ts t=4):=aa (by rw[a5.out (by rw[h6,zu R];decide),h6,zu R]);clear h6;refine Par.ag 25 [.slice (some ⟨s,u,none⟩) m g,.int .i64 k,.pointer (some ⟨s,u+k*4,none⟩),.pointer (some ⟨s,u+k*4+1,none⟩),.slice (some ⟨kb,ko,none⟩) lk ck,.slice (some ⟨s,u,none⟩) m g,.int .i64 k,.pointer (some ⟨s,u+k*4,none⟩),.agg #[.string O.nm,.slice (some ⟨kb,ko,none⟩) lk ck,.string O.key,.slice c2 c5 c4],.slice (some ⟨s,u,none⟩) m g,.int .i64 k,.pointer (some ⟨s,u+k*4,none⟩),.pointer (some ⟨s,u+k*4+2,none⟩),.string O.key,.int .i64 q,.pointer (some ⟨kb,ko+q*4,none⟩),.pointer (some ⟨kb,ko+q*4+1,none⟩),.int .i64 kq.kd,.pointer (some ⟨B,1,none⟩),.slice (some ⟨b,A,none⟩) n cc,.int .i64 i,.pointer (some ⟨b,A+i*4,none⟩),.pointer (some ⟨b,A+i*4+1,none⟩),.int .i64 c.kd,.bool true] (fun w=>Below wr.heap.size wr w) ?A2 ?hm2 ?hB2 ?hA2 (aG wr) ?hop2 ?hT2
  case hm2=>kernel_rfl
  case hB2=>kernel_rfl
  case hA2 =>
   simp only[Par.am,Par.ai,Act.put,eh,ez,dz,eo,ew,ey,ed,ic,gy];rfl
  case hop2 =>
   simp only[en,zh,Par.ah,yo];and_intros<;>intro w' f<;>have HR:=aa f
   rotate_left 4;have y:=aK f k1;rotate_left 4;have y0:=aK f k0;have y1:=aK f k1;have y2:=aK f k2;have y3:=aK f k3;rotate_left 5;have y:=aK f k2;rotate_left
   ·clear f;simp only[Par.Gives];go_simp;exact(c6.out w' HR.out).mono (fun e d4⟨he,S⟩=>⟨he,aC HR.out S⟩)
   rotate_left 2;have y:=aK f g1;rotate_left 2;have y:=aK f u2;rotate_left 4;have y:=aK f c1;rotate_left 2
   all_goals(clear f;simp only[Par.Gives];go_simp;all_goals exact HR.out)
  intro w' f;simp only[ex,ym];go_wp2_with fail;go_ret;exact⟨aP r.out.symm,a.out▸(o.2.on f).tb.below⟩
 go_wp2_with fail;go_ret;exact⟨aP (by rw[b5.out];exact(dS _ (fun x hx=>by rw[yw];rw[yd]at hx;exact o.1 x hx (by have:=HN.1;omega))).symm),a.out▸o.2.tb.below⟩
section
variable{S:Nat}{W w w':World}{t:T}{cv dv:Value}{j:Nat}
end
def Bt(W:World)(v:Value)(n k:Nat)(xs:List Value):Prop:=xs.length=n*k/\∃p cap,v=.slice p n cap/\n<=cap/\cap<=maxLen/\(0<n->∃b off,p=some ⟨b,off,none⟩/\b<W.heap.size/\∀j u,xs[j]?=some u->W.cell? ⟨b,off+j,none⟩=some u)
def DW(W:World)(v:Value)(l:List C):Prop:=Bt W v l.length 4 (be l)
def EN(W:World)(v:Value)(l:List ByteArray):Prop:=Bt W v l.length 1 (cellsS l)
def Gf(W:World)(v:Value)(ds:List D):Prop:=∃ps:List Value,ps.length=ds.length/\Bt W v ds.length 2 (cellsD ps ds)/\∀j (h:j<ps.length) (h':j<ds.length),EN W ps[j] ds[j].left
def InT(W:World)(cv dv:Value)(t:T):Prop:=DW W cv t.cols/\Gf W dv t.deps
def GJ(W:World)(v:Value)(ts:List T):Prop:=∃xs,Bt W v ts.length 4 xs/\∀j (h:j<ts.length),∃cv dv,xs[j*4]?=some (.string ts[j].nm)/\xs[j*4+1]?=some cv/\xs[j*4+2]?=some (.string ts[j].key)/\xs[j*4+3]?=some dv/\InT W cv dv ts[j]
def AY(m:Nat)(s:ByteArray):ByteArray:=if m<s.size then s.extract 0 m else s
def CD(l:List ByteArray):List ByteArray:=(l.map (AY 20)).take 6
structure TI (S TB:Nat) (W:World) (t:T) (cv dv:Value) (nm key:ByteArray) (cs:List C) (ds:List D) (cu du:Value) (ps:List Value) (w:World):Prop where
 src:w.heap[S]?=some (ar t.nm cv t.key dv)
 res:w.heap[S+1]?=some (ar e0 (.slice none 0 0) e0 (.slice none 0 0))
 box:w.heap[TB]?=some (ar nm cu key du)
 c:ac w (TB+1) 107 4 cu cs.length (be cs)
 d:jx w (TB+1) du ds ps
 below:Below S W w
 hT:S+2<=TB
section
variable{S TB:Nat}{W w w':World}{t:T}{cv dv:Value}{nm key:ByteArray}{cs:List C}{ds:List D}{cu du:Value}{ps:List Value}
end
structure TR (B:Nat) (us:List T) (v:Value) (xs:List Value) (w:World):Prop where
 row:ac w B 60 4 v us.length xs
 tabs:ju w xs us
 sz:B<=w.heap.size
section
variable{B:Nat}{w w':World}{us:List T}{v:Value}{xs:List Value}
end
