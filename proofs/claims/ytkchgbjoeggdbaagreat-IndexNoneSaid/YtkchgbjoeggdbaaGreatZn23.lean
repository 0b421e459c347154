import Derived.Test.YtkchgbjoeggdbaaGreatZn22
set_option maxHeartbeats 1000000
set_option maxRecDepth 100000
namespace Go.Proofs.YtkchgbjoeggdbaaGreat
open Go.Proofs.Tryz
open Go Go.RowKit Go.Proofs Co Co.S
def Ap(a b c:Int):Int:=if a=0 then(if b=0 then c else b)else a
def og(u v:T3):Int:=Ap (Lib.compareInt u.1 v.1) (Lib.compareInt u.2.1 v.2.1) (Lib.compareBytes u.2.2.data.toList v.2.2.data.toList)
theorem kZ(x y:Int):Lib.compareInt x y=0↔x=y:=by
 unfold Lib.compareInt;rcases Int.lt_trichotomy x y with h|h|h
 ·rw[zw h];omega
 ·rw[zu (by omega),zu (by omega)];omega
 rw[zu (by omega),zw (by omega)];omega
theorem xY:∀a b:List UInt8,Lib.compareBytes a b=0↔a=b
 | [],[]=>by simp[Lib.compareBytes]
 | [],_::_=>by simp[Lib.compareBytes]
 | _::_,[]=>by simp[Lib.compareBytes]
 | x::a,y::b=>by
  have f:=xY a b;unfold Lib.compareBytes;by_cases h:x<y
  ·have c:x≠y:=(by intro e;subst e;simp[UInt8.lt_irrefl]at h);simp[h,c]
  ·by_cases d:y<x
   ·have c:x≠y:=(by intro e;subst e;simp[UInt8.lt_irrefl]at d);simp[h,d,c]
   ·have g:x=y:=by
     apply UInt8.toNat_inj.1;rw[UInt8.lt_iff_toNat_lt]at h d;omega
    subst g;simp[UInt8.lt_irrefl,f]
theorem mN(u v:T3):(og u v==0)=decide (u=v):=by
 obtain⟨f,g,s1⟩:=u;obtain⟨i,j,s2⟩:=v;have c:=kZ f i;have d:=kZ g j;have k:=xY s1.data.toList s2.data.toList;have l:s1.data.toList=s2.data.toList↔s1=s2:=⟨fun e=>cY e,fun e=>by rw[e]⟩;rw[l]at k;rw[wu];simp only[vq,xz,og,Ap,Prod.mk.injEq];by_cases a:f=i
 ·rw[zw (c.2 a)];by_cases b:g=j
  ·rw[zw (d.2 b),k];simp[a,b]
  rw[zu (fun h=>b (d.1 h)),d];simp[b]
 rw[zu (fun h=>a (c.1 h)),c];simp[a]
theorem oK(x:Int)(w:World):Calls prog 75 #[.int .i64 x] w fun e w'=>e=.returned (.bool false)/\w'=w:=by
 go_enter func75,ntmps75;go_wp2_with fail;go_ret;exact⟨rfl,rfl⟩
theorem kB(x:Int)(w:World):Calls prog 76 #[.int .i64 x] w fun e w'=>e=.returned (.bool false)/\w'=w:=by
 go_enter func76,ntmps76;go_wp2_with fail;go_ret;exact⟨rfl,rfl⟩
theorem Ij(x y:Int)(w:World):Calls prog 33 #[.int .i64 x,.int .i64 y] w fun e w'=>e=.returned (.int .i64 (Lib.compareInt x y))/\w'=w:=by
 have b:=oK x w;have c:=oK y w;unfold Lib.compareInt;rcases Int.lt_trichotomy x y with h|h|h
 ·rw[zw h];go_enter func33,ntmps33;go_wp2_with (first | (go_at_call 75;(with_reducible refine b.mono ?_);rintro e w'⟨rfl,a⟩;subst a;clear b) | (go_at_call 75;(with_reducible refine c.mono ?_);rintro e w'⟨rfl,a⟩;subst a;clear c));go_ret;exact⟨rfl,rfl⟩
 ·subst h;rw[zu (by omega),zu (by omega)];go_enter func33,ntmps33;go_wp2_with (first | (go_at_call 75;(with_reducible refine b.mono ?_);rintro e w'⟨rfl,a⟩;subst a;clear b) | (go_at_call 75;(with_reducible refine c.mono ?_);rintro e w'⟨rfl,a⟩;subst a;clear c));go_ret;exact⟨rfl,rfl⟩
 rw[zu (by omega),zw (by omega)];go_enter func33,ntmps33;go_wp2_with (first | (go_at_call 75;(with_reducible refine b.mono ?_);rintro e w'⟨rfl,a⟩;subst a;clear b) | (go_at_call 75;(with_reducible refine c.mono ?_);rintro e w'⟨rfl,a⟩;subst a;clear c));go_ret;exact⟨rfl,rfl⟩
theorem Fb(x y:Int)(w:World):Calls prog 34 #[.int .i64 x,.int .i64 y] w fun e w'=>e=.returned (.int .i64 (Lib.compareInt x y))/\w'=w:=by
 have b:=kB x w;have c:=kB y w;unfold Lib.compareInt;rcases Int.lt_trichotomy x y with h|h|h
 ·rw[zw h];go_enter func34,ntmps34;go_wp2_with (first | (go_at_call 76;(with_reducible refine b.mono ?_);rintro e w'⟨rfl,a⟩;subst a;clear b) | (go_at_call 76;(with_reducible refine c.mono ?_);rintro e w'⟨rfl,a⟩;subst a;clear c));go_ret;exact⟨rfl,rfl⟩
 ·subst h;rw[zu (by omega),zu (by omega)];go_enter func34,ntmps34;go_wp2_with (first | (go_at_call 76;(with_reducible refine b.mono ?_);rintro e w'⟨rfl,a⟩;subst a;clear b) | (go_at_call 76;(with_reducible refine c.mono ?_);rintro e w'⟨rfl,a⟩;subst a;clear c));go_ret;exact⟨rfl,rfl⟩
 rw[zu (by omega),zw (by omega)];go_enter func34,ntmps34;go_wp2_with (first | (go_at_call 76;(with_reducible refine b.mono ?_);rintro e w'⟨rfl,a⟩;subst a;clear b) | (go_at_call 76;(with_reducible refine c.mono ?_);rintro e w'⟨rfl,a⟩;subst a;clear c));go_ret;exact⟨rfl,rfl⟩
theorem Gg(a b c:Int)(g:Nat)(w:World)(ca:w.cell? ⟨g,0,none⟩=some (.int .i64 a))(cb:w.cell? ⟨g,1,none⟩=some (.int .i64 b))(cc:w.cell? ⟨g,2,none⟩=some (.int .i64 c)):Calls prog 32 #[.slice (some ⟨g,0,none⟩) 3 3] w fun e w'=>e=.returned (.int .i64 (Ap a b c))/\w'=w:=by
 by_cases i:a=0
 ·subst i;by_cases l:b=0
  ·subst l;by_cases o:c=0
   ·subst o;go_enter func32,ntmps32;go_wp2_with fail;go_loopg [8] 5 (fun f h wr=>∃(j:Nat),h=.int .i64 (j:Int)/\j<=3/\4<=j+f/\wr=w)
    case atStart=>exact⟨0,rfl,by omega,by omega,rfl⟩
    obtain⟨k,rfl,m,n,rfl⟩:=hrel;rcases(by omega:k=0∨k=1∨k=2∨k=3)with rfl|rfl|rfl|rfl
    ·go_wp2_with fail;go_roundg 3
     case measure=>omega
     exact⟨1,rfl,by omega,by omega,rfl⟩
    ·go_wp2_with fail;go_roundg 2
     case measure=>omega
     exact⟨2,rfl,by omega,by omega,rfl⟩
    ·go_wp2_with fail;go_roundg 1
     case measure=>omega
     exact⟨3,rfl,by omega,by omega,rfl⟩
    go_wp2_with fail;go_ret;exact⟨rfl,rfl⟩
   have p:(c==0)=false:=beq_eq_false_iff_ne.2 o;have d:Ap 0 0 c=c:=rfl;rw[d];go_enter func32,ntmps32;go_wp2_with fail;go_loopg [8] 5 (fun f h wr=>∃(j:Nat),h=.int .i64 (j:Int)/\j<=2/\4<=j+f/\wr=w)
   case atStart=>exact⟨0,rfl,by omega,by omega,rfl⟩
   obtain⟨k,rfl,m,n,rfl⟩:=hrel;rcases(by omega:k=0∨k=1∨k=2)with rfl|rfl|rfl
   ·go_wp2_with fail;go_roundg 3
    case measure=>omega
    exact⟨1,rfl,by omega,by omega,rfl⟩
   ·go_wp2_with fail;go_roundg 2
    case measure=>omega
    exact⟨2,rfl,by omega,by omega,rfl⟩
   go_wp2_with fail;go_ret;exact⟨rfl,rfl⟩
  have q:(b==0)=false:=beq_eq_false_iff_ne.2 l;have d:Ap 0 b c=b:=(by unfold Ap;rw[zw rfl,zu l]);rw[d];go_enter func32,ntmps32;go_wp2_with fail;go_loopg [8] 5 (fun f h wr=>∃(j:Nat),h=.int .i64 (j:Int)/\j<=1/\4<=j+f/\wr=w)
  case atStart=>exact⟨0,rfl,by omega,by omega,rfl⟩
  obtain⟨k,rfl,m,n,rfl⟩:=hrel;rcases(by omega:k=0∨k=1)with rfl|rfl
  ·go_wp2_with fail;go_roundg 3
   case measure=>omega
   exact⟨1,rfl,by omega,by omega,rfl⟩
  go_wp2_with fail;go_ret;exact⟨rfl,rfl⟩
 have r:(a==0)=false:=beq_eq_false_iff_ne.2 i;have d:Ap a b c=a:=(by unfold Ap;rw[zu i]);rw[d];go_enter func32,ntmps32;go_wp2_with fail;go_loopg [8] 5 (fun f h wr=>∃(j:Nat),h=.int .i64 (j:Int)/\j<=0/\4<=j+f/\wr=w)
 case atStart=>exact⟨0,rfl,by omega,by omega,rfl⟩
 obtain⟨k,rfl,m,n,rfl⟩:=hrel;obtain rfl:k=0:=(by omega);go_wp2_with fail;go_ret;exact⟨rfl,rfl⟩
theorem eN(u v:T3)(w:World):Calls prog 13 #[.agg #[.int .i64 u.1,.int .i64 u.2.1,.string u.2.2],.agg #[.int .i64 v.1,.int .i64 v.2.1,.string v.2.2]] w fun e w'=>e=.returned (.int .i64 (og u v))/\Below w.heap.size w w':=by
 obtain⟨a,b,s1⟩:=u;obtain⟨c,d,s2⟩:=v;go_enter func13,ntmps13
 go_wp2
 go_region_held3 (fun w'=>w'.cell? ⟨w.heap.size,0,none⟩=some (.int .i64 a)/\w'.cell? ⟨w.heap.size,1,none⟩=some (.int .i64 b)/\w'.cell? ⟨w.heap.size,2,none⟩=some (.string s1)/\w'.cell? ⟨w.heap.size+1,0,none⟩=some (.int .i64 c)/\w'.cell? ⟨w.heap.size+1,1,none⟩=some (.int .i64 d)/\w'.cell? ⟨w.heap.size+1,2,none⟩=some (.string s2))
  (go_keep)
  (first|(go_at_call 33;refine(Ij _ _ _).mono ?_;rintro e w'⟨rfl,rfl⟩)|(go_at_call 34;refine(Fb _ _ _).mono ?_;rintro e w'⟨rfl,rfl⟩)|(go_at_call 35;refine(lJ _ _ _).mono ?_;rintro e w'⟨rfl,rfl⟩)|(go_at_call 32;refine(Gg (Lib.compareInt a c) (Lib.compareInt b d) (Lib.compareBytes s1.data.toList s2.data.toList) _ _ ?_ ?_ ?_).mono ?_;(go_simp);(go_simp);(go_simp);rintro e w'⟨rfl,rfl⟩))
 go_wp2
 go_ret;exact⟨rfl,(((aJ _ _).alloc (by simp) _).alloc (by simp;omega) _).drew⟩
theorem xZ(u v:T3)(w:World):Calls prog 86 #[.agg #[.int .i64 u.1,.int .i64 u.2.1,.string u.2.2],.agg #[.int .i64 v.1,.int .i64 v.2.1,.string v.2.2]] w fun e w'=>e=.returned (.bool (decide (u=v)))/\Below w.heap.size w w':=by
 have f:=mN u v;have a:=aD w (.cells #[.int .i64 u.1,.int .i64 u.2.1,.string u.2.2] 32);have b:=aC a (aD (w.alloc (.cells #[.int .i64 u.1,.int .i64 u.2.1,.string u.2.2] 32)) (.cells #[.int .i64 v.1,.int .i64 v.2.1,.string v.2.2] 32));have g:=eN u v;obtain⟨c,d⟩:=ae (og u v);rw[d]at f g;rw[<-f];have h:=aa b;clear f d a b;go_enter func86,ntmps86;go_wp2_with (go_at_call 13;refine(g _).mono ?_;rintro e w'⟨rfl,i⟩);go_ret;exact⟨rfl,aC h.out i⟩
end Go.Proofs.YtkchgbjoeggdbaaGreat
namespace Go.Proofs.YtkchgbjoeggdbaaGreat.Ix
open Go.Proofs.Tryz
open Go Go.RowKit Go.Proofs Go.Proofs.YtkchgbjoeggdbaaGreat Go.Proofs.YtkchgbjoeggdbaaGreat.Co Go.Proofs.YtkchgbjoeggdbaaGreat.Co.S
variable{M:Nat}
theorem yA{A B r s P:Int}(h:A<B)(hr:r<P)(hs:0<=s)(hP:0<P):A*P+r<B*P+s:=by
 have a:(A+1)*P<=B*P:=Int.mul_le_mul_of_nonneg_right (by omega) (Int.le_of_lt hP);rw[Int.add_mul,Int.one_mul]at a;generalize A*P=x at *;generalize B*P=y at *;omega
def Bk(x:T3):Int:=(x.1+9223372036854775808)*18446744073709551616+(x.2.1+9223372036854775808)
def aw(x:VX M):Int:=Bk x.1*257 ^ M+ld M x.1.2.2.data.toList
theorem Cw{x y:Int}(h:x<y):Lib.compareInt x y=-1:=by
 unfold Lib.compareInt;rw[zw h]
theorem Ct{x y:Int}(h:y<x):Lib.compareInt x y=1:=by
 unfold Lib.compareInt;rw[zu (by omega),zw (by omega)]
theorem sC(a b:VX M):og a.1 b.1=cy (aw a) (aw b):=by
 obtain⟨⟨d,e,s1⟩,⟨p,g⟩,⟨q,i⟩,r⟩:=a;obtain⟨⟨m,j,s2⟩,⟨s,k⟩,⟨t,l⟩,u⟩:=b;have f:(0:Int)<257 ^ M:=Int.pow_pos (by decide);obtain⟨r0,r1⟩:=fY M s1.data.toList;obtain⟨n,o⟩:=fY M s2.data.toList;have v:=nQ M s1.data.toList s2.data.toList (by simpa using r) (by simpa using u);dsimp only at p g q i s k t l;unfold og Ap aw Bk;dsimp only;rcases Int.lt_trichotomy d m with h|h|h
 ·rw[Cw h,zu (by decide)];exact(zw (yA (by omega) r1 n f)).symm
 ·subst h;rw[(kZ d d).2 rfl,zw rfl];rcases Int.lt_trichotomy e j with h|h|h
  ·rw[Cw h,zu (by decide)];exact(zw (yA (by omega) r1 n f)).symm
  ·subst h;rw[(kZ e e).2 rfl,zw rfl,v];unfold cy;simp only[Int.add_lt_add_iff_left]
  have c:=yA (A:=(d+9223372036854775808)*18446744073709551616+(j+9223372036854775808)) (B:=(d+9223372036854775808)*18446744073709551616+(e+9223372036854775808)) (by omega) o r0 f;rw[Ct h,zu (by decide)];unfold cy;rw[zu (by omega),zw c]
 have c:=yA (A:=(m+9223372036854775808)*18446744073709551616+(j+9223372036854775808)) (B:=(d+9223372036854775808)*18446744073709551616+(e+9223372036854775808)) (by omega) o r0 f;rw[Ct h,zu (by decide)];unfold cy;rw[zu (by omega),zw c]
theorem Hd{a b:VX M}(h:aw a=aw b):a=b:=by
 have d:og a.1 b.1=0:=(by rw[sC,h];exact cE.2 rfl);have c:=mN a.1 b.1;rw[d]at c;exact Subtype.ext (wf c.symm)
abbrev Bw:Value:=.func (.func 13) #[] #[]
theorem BX(W0:World):Cmp (M:=M) W0 Bw aw:=
 ⟨13,#[],rfl,enters_of func13 (by kernel_rfl) rfl,fun w a b _=>(eN a.1 b.1 w).mono (by
  rintro e w'⟨rfl,c⟩;rw[sC];exact⟨rfl,c⟩)⟩
section
variable{κ β:Type}{key:κ->Int}
theorem dY{k k2:κ}{v:β}:∀{L:List (κ×β)},ak key k (bn key k2 v L)=if key k2=key k then some v else ak key k L
 | []=>by
  rw[bn];rfl
 | (a,w)::r=>by
  rw[bn];by_cases c:key k2<key a
  ·rw[zw c,ak]
  ·rw[zu c];by_cases d:key a<key k2
   ·rw[zw d,ak,ak,dY];by_cases b:key a=key k
    ·rw[zw b,zw b,zu (by omega)]
    ·rw[zu b,zu b]
   ·rw[zu d,ak,ak];have e:key a=key k2:=(by omega);rw[e];by_cases b:key k2=key k
    ·rw[zw b,zw b]
    ·rw[zu b,zu b,zu b]
theorem oL{k:κ}{v:β}:∀{L:List (κ×β)},ak key k L=some v->∃p∈L,key p.1=key k/\p.2=v
 | [],h=>by rw[ak]at h;cases h
 | (a,w)::r,h=>by
  rw[ak]at h;by_cases b:key a=key k
  ·rw[zw b]at h;cases h;exact⟨(a,v),by simp,b,rfl⟩
  ·rw[zu b]at h;obtain⟨p,c,d⟩:=oL h;exact⟨p,by simp[c],d⟩
theorem dN{p:κ×β}:∀{L:List (κ×β)},Srt key L->p∈L->ak key p.1 L=some p.2
 | [],_,h=>by cases h
 | (a,w)::r,hs,h=>by
  have b:=List.pairwise_cons.1 hs;rw[ak];rcases List.mem_cons.1 h with rfl|h
  ·rw[zw rfl]
  ·have c:=b.1 p h;have c:key a<key p.1:=c;rw[zu (by omega)];exact dN b.2 h
end
variable{M:Nat}
def oa(L:List (VX M×List Int))(p:Int×VX M):List (VX M×List Int):=bn aw p.2 (((ak aw p.2 L).getD [])++[p.1]) L
def qw(rs:List (Int×VX M)):List (VX M×List Int):=rs.foldl oa []
theorem sE(rs:List (Int×VX M))(p:Int×VX M):qw (rs++[p])=oa (qw rs) p:=by
 unfold qw;rw[List.foldl_append];rfl
theorem GF{L:List (VX M×List Int)}(h:Srt aw L)(p:Int×VX M):Srt aw (oa L p):=h.ins
theorem GY(rs:List (Int×VX M)):Srt aw (qw rs):=by
 unfold qw
 suffices h:∀L,Srt aw L->Srt aw (rs.foldl oa L)from h _ Srt.nil
 induction rs with
 | nil=>exact fun _ h=>h
 | cons p rs ih=>exact fun L h=>ih _ (GF h p)
def mj(rs:List (Int×VX M))(v:VX M):List Int:=(rs.filter fun p=>decide (aw p.2=aw v)).map (·.1)
theorem vP(rs:List (Int×VX M))(p:Int×VX M)(v:VX M):mj (rs++[p]) v=if aw p.2=aw v then mj rs v++[p.1]else mj rs v:=by
 unfold mj;rw[List.filter_append,vw];by_cases h:aw p.2=aw v
 ·rw[zw h];simp[h]
 rw[zu h];simp[h]
theorem Im(rs:List (Int×VX M))(v:VX M):(ak aw v (qw rs)).getD []=mj rs v/\((ak aw v (qw rs)).isSome=true↔mj rs v≠[]):=by
 suffices h:∀n,∀rs:List (Int×VX M),rs.length=n->(ak aw v (qw rs)).getD []=mj rs v/\((ak aw v (qw rs)).isSome=true↔mj rs v≠[])from h _ rs rfl
 intro n
 induction n with
 | zero =>
  intro rs h;obtain rfl:=List.length_eq_zero_iff.1 h;exact⟨rfl,by simp[qw,mj,ak]⟩
 | succ n ih =>
  intro rs h;have a:rs≠[]:=(fun e=>by rw[e]at h;cases h);obtain⟨c,p,rfl⟩:∃c p,rs=c++[p]:=⟨rs.dropLast,rs.getLast a,(List.dropLast_concat_getLast a).symm⟩;have d:c.length=n:=(by simp at h;exact h);obtain⟨i1,f⟩:=ih c d;rw[sE,vP];unfold oa;rw[dY];by_cases b:aw p.2=aw v
  ·rw[zw b,zw b];have e:p.2=v:=Hd b;rw[e,i1];exact⟨rfl,by simp⟩
  ·rw[zu b,zu b];exact⟨i1,f⟩
theorem oM{κ β γ:Type}{key:κ->Int}{k:κ}{a:β}{b:γ}:∀{L:List (κ×β)} {G:List (κ×γ)},L.map (·.1)=G.map (·.1)->(bn key k a L).map (·.1)=(bn key k b G).map (·.1)
 | [],[],_=>rfl
 | [],_::_,h=>by simp at h
 | _::_,[],h=>by simp at h
 | (x,u)::L,(y,w)::G,h=>by
  rw[List.map_cons,List.map_cons,List.cons.injEq]at h;obtain⟨e,f⟩:=h;have e:x=y:=e;subst e;rw[bn,bn];by_cases c:key k<key x
  ·rw[zw c,zw c,List.map_cons,List.map_cons,List.map_cons,List.map_cons,f]
  ·rw[zu c,zu c];by_cases d:key x<key k
   ·rw[zw d,zw d,List.map_cons,List.map_cons,oM f]
   ·rw[zu d,zu d,List.map_cons,List.map_cons,f]
theorem oN{κ β γ:Type}{key:κ->Int}{k:κ}:∀{L:List (κ×β)} {G:List (κ×γ)},L.map (·.1)=G.map (·.1)->(ak key k L).isSome=(ak key k G).isSome
 | [],[],_=>rfl
 | [],_::_,h=>by simp at h
 | _::_,[],h=>by simp at h
 | (x,u)::L,(y,w)::G,h=>by
  rw[List.map_cons,List.map_cons,List.cons.injEq]at h;obtain⟨b,c⟩:=h;have b:x=y:=b;subst b;rw[ak,ak];by_cases a:key x=key k
  ·rw[zw a,zw a];rfl
  ·rw[zu a,zu a];exact oN c
variable{M:Nat}
abbrev jc(s:SV):Value:=.slice s.1 s.2.1 s.2.2
structure rh (b0:Nat) (w:World) (L:List (VX M×SV)) (G:List (VX M×List Int)):Prop where
 keys:L.map (·.1)=G.map (·.1)
 row:∀(v:VX M) (s:SV),ak aw v L=some s->∃g,ak aw v G=some g/\Ro w b0 (jc s) g
 apart:∀(v u:VX M) (s t:SV),ak aw v L=some s->ak aw u L=some t->aw v≠aw u->∀q,(jc s).ownBlock=some q->(jc t).ownBlock≠some q
section
variable{b0:Nat}{w w':World}{L:List (VX M×SV)}{G:List (VX M×List Int)}
theorem rh.nil:rh (M:=M) b0 w [] []:=⟨rfl,fun _ _ h=>(by cases h),fun _ _ _ _ h=>(by cases h)⟩
theorem rh.of(h:rh b0 w L G)(hk:∀v s q,ak aw v L=some s->(jc s).ownBlock=some q->w'.heap[q]?=w.heap[q]?):rh b0 w' L G:=
 ⟨h.keys,fun v s a=>by
  obtain⟨g,b,c⟩:=h.row v s a;exact⟨g,b,ac.of c (fun q d=>hk v s q a d)⟩,h.apart⟩
theorem rh.later(h:rh b0 w L G)(hb:Below w.heap.size w w'):rh b0 w' L G:=h.of (fun v s q a b=>by
 obtain⟨g,_,c⟩:=h.row v s a;exact hb.block q (ac.lt c q b).2)
theorem rh.get(h:rh b0 w L G)(v:VX M):Ro w b0 (jc ((ak aw v L).getD (none,0,0))) ((ak aw v G).getD []):=by
 have a:=oN (key:=aw) (k:=v) h.keys;cases b:ak aw v L with
 | none =>
  rw[b]at a;cases c:ak aw v G with
  | none=>exact ac.nil
  | some g=>rw[c]at a;cases a
 | some s =>
  obtain⟨g,d,e⟩:=h.row v s b;rw[d];exact e
theorem rh.add(h:rh b0 w L G){v:VX M}{id:Int}{s':SV}(hr:Ro w' b0 (jc s') (((ak aw v G).getD [])++[id]))(hgb:w.grownBy w' (jc ((ak aw v L).getD (none,0,0))).ownBlock)(ho:∀q,(jc s').ownBlock=some q->(jc ((ak aw v L).getD (none,0,0))).ownBlock=some q∨w.heap.size<=q):rh b0 w' (bn aw v s' L) (oa G (id,v)):=by
 have b:∀(u:VX M) (t:SV),ak aw u L=some t->aw v≠aw u->∀q,(jc t).ownBlock=some q->(jc ((ak aw v L).getD (none,0,0))).ownBlock≠some q:=by
  intro u t c f q d;cases y:ak aw v L with
  | none=>intro e;cases e
  | some s=>exact fun e=>h.apart v u s t y c f q e d
 have k:∀(u:VX M) (t:SV),ak aw u L=some t->∀q,(jc t).ownBlock=some q->q<w.heap.size:=by
  intro u t c q d;obtain⟨g,_,a⟩:=h.row u t c;exact(ac.lt a q d).2
 refine⟨oM h.keys,fun u t c=>?_,fun o m r x i a f q d=>?_⟩
 ·rw[dY]at c;unfold oa;rw[dY];by_cases e:aw v=aw u
  ·rw[zw e]at c ⊢;cases c;exact⟨_,rfl,hr⟩
  rw[zu e]at c ⊢;obtain⟨g,i,a⟩:=h.row u t c;exact⟨g,i,ac.of a (fun q d=>hgb.block q (k u t c q d) (fun l=>b u t c e q d l.symm))⟩
 rw[dY]at i a;by_cases p:aw v=aw o
 ·rw[zw p]at i;cases i;have l:¬ aw v=aw m:=(fun e=>f (p.symm.trans e));rw[zu l]at a;intro j;rcases ho q d with n|n
  ·exact b m x a l q j n
  have:=k m x a q j;omega
 rw[zu p]at i;by_cases l:aw v=aw m
 ·rw[zw l]at a;cases a;intro j;rcases ho q j with n|n
  ·exact b o r i p q d n
  have:=k o r i q d;omega
 rw[zu l]at a;exact h.apart o m r x i a f q d
end
def holdsV(op c:Int):Bool:=
 if op=1 then c==0 else if op=2 then c != 0 else if op=3 then decide (c<0)else if op=4 then decide (c<=0)else if op=5 then decide (0<c)else if op=6 then decide (0<=c)else false
def lx(op:Int)(u v:T3):Bool:=
 if op=7 then u.1==0 else if op=8 then u.1 != 0 else if u.1=0∨u.1≠v.1 then false else holdsV op (og u v)
theorem kM{a b:Bool}(h:a=b):Ending.returned (.bool a)=Ending.returned (.bool b):=by rw[h]
theorem EY(op c:Int)(w:World):Calls prog 74 #[.int .i64 op,.int .i64 c] w fun e w'=>e=.returned (.bool (holdsV op c))/\w=w':=by
 by_cases a:op=1
 ·subst a;go_enter func74,ntmps74
  go_wp2
  go_ret;exact⟨kM (by simp[holdsV]),rfl⟩
 by_cases b:op=2
 ·subst b;go_enter func74,ntmps74
  go_wp2
  go_ret;exact⟨kM (by simp[holdsV]),rfl⟩
 by_cases d:op=3
 ·subst d;go_enter func74,ntmps74
  go_wp2
  go_ret;exact⟨kM (by simp[holdsV]),rfl⟩
 by_cases f:op=4
 ·subst f;go_enter func74,ntmps74
  go_wp2
  go_ret;exact⟨kM (by simp[holdsV]),rfl⟩
 by_cases g:op=5
 ·subst g;go_enter func74,ntmps74
  go_wp2
  go_ret;exact⟨kM (by simp[holdsV]),rfl⟩
 by_cases h:op=6
 ·subst h;go_enter func74,ntmps74
  go_wp2
  go_ret;exact⟨kM (by simp[holdsV]),rfl⟩
 go_enter func74,ntmps74
 go_wp2
 go_ret;exact⟨kM (by simp[holdsV,a,b,d,f,g,h]),rfl⟩
theorem F9(op:Int)(u v:T3)(w:World):Calls prog 31 #[.int .i64 op,.agg #[.int .i64 u.1,.int .i64 u.2.1,.string u.2.2],.agg #[.int .i64 v.1,.int .i64 v.2.1,.string v.2.2]] w fun e w'=>e=.returned (.bool (lx op u v))/\Below w.heap.size w w':=by
 have a:=eN u v;obtain⟨b,k,s1⟩:=u;obtain⟨h,l,s2⟩:=v;dsimp only at a ⊢;obtain⟨c,d⟩:=ae (og (b,k,s1) (h,l,s2));rw[d]at a;by_cases f:op=7
 ·subst f;go_enter func31,ntmps31
  go_wp2
  go_ret;exact⟨kM (by simp[lx]),(aJ _ _).alloc (by simp) _⟩
 by_cases g:op=8
 ·subst g;go_enter func31,ntmps31
  go_wp2
  go_ret;exact⟨kM (by simp[lx]),(aJ _ _).alloc (by simp) _⟩
 by_cases i:b=0
 ·subst i;go_enter func31,ntmps31
  go_wp2
  go_ret;exact⟨kM (by simp[lx,f,g]),(aJ _ _).alloc (by simp) _⟩
 have kb:(b==0)=false:=beq_eq_false_iff_ne.2 i;by_cases j:b=h
 ·subst j;go_enter func31,ntmps31
  go_wp2_with (first|(go_at_call 13;refine(a _).mono ?_;rintro e w'⟨rfl,m⟩)|(go_at_call 74;refine(EY _ _ _).mono ?_;rintro e w'⟨rfl,rfl⟩))
  go_ret;exact⟨kM (by simp[lx,f,g,i,d]),((aJ _ _).alloc (by simp) _).trans (m.mono (by simp;omega))⟩
 have kc:(b==h)=false:=beq_eq_false_iff_ne.2 j;go_enter func31,ntmps31
 go_wp2
 go_ret;exact⟨kM (by simp[lx,f,g,j]),(aJ _ _).alloc (by simp) _⟩
