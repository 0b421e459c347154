import Derived.Test.YthlccadnojnkaaaGreatZn1
import Derived.Test.YthlccadnojnkaaaGreatProg
import Derived.WalkLawsBesides
import Derived.WalkSpells
import Derived.StillTailTactics
set_option maxHeartbeats 400000
namespace Go.Proofs.YthlccadnojnkaaaGreat.Co
open Go.Proofs.Tryz
open Go Go.RowKit
def okB(c:UInt8):Bool:=32<=c.toNat&&c.toNat<=126&&c.toNat != 39
def qy(l:List UInt8):Bool:=decide (l.length<=12)&&l.all okB
theorem Lj(s:ByteArray)(k:Nat)(h:k<s.size):s.data.toList.take (k+1)=s.data.toList.take k++[s[k]]:=by
 rw[yp (by simpa using h)];rfl
theorem dP{c:UInt8}(h:c.toNat<32∨126<c.toNat∨c.toNat=39):okB c=false:=by
 unfold okB;rcases h with h|h|h <;> simp <;> omega
theorem wD{c:UInt8}(h1:¬ c.toNat<32)(h2:¬ 126<c.toNat)(h3:¬ c.toNat=39):okB c=true:=by
 unfold okB;simp;omega
theorem JS(s:ByteArray)(k:Nat)(h:k<s.size)(hb:okB s[k]=false):s.data.toList.all okB=false:=by
 rw[List.all_eq_false];exact⟨s[k],by show s.data[k]∈s.data.toList;simp,by simp[hb]⟩
theorem fL(s:ByteArray)(k:Nat)(h:k<s.size)(hb:okB s[k]=false):qy s.data.toList=false:=by
 unfold qy;rw[JS s k h hb];simp
theorem aH{a b:Bool}(h:a=b):Ending.returned (.bool a)=.returned (.bool b):=by rw[h]
theorem wE(s:ByteArray)(k:Nat)(h:k<s.size)(hb:okB s[k]=true)(ha:(s.data.toList.take k).all okB=true):(s.data.toList.take (k+1)).all okB=true:=by
 rw[Lj s k h,List.all_append,ha];simp[hb]
theorem wG(s:ByteArray)(w:World)(hs:s.size<=maxLen):Calls prog 148 #[.string s] w fun e g=>e=.returned (.bool (qy s.data.toList))/\w=g:=by
 unfold maxLen at hs;go_enter func148,ntmps148;by_cases j:12<s.size
 ·go_wp2
  go_ret;exact⟨aH (by unfold qy;simp;intro h;omega),rfl⟩
 go_wp2
 go_loop [3] (fun i=>∃k:Nat,k<=s.size/\i=.int .i64 k/\(s.data.toList.take k).all okB=true) (fun i=>s.size-(intOf i).toNat)
 case atStart=>exact⟨0,zh _,rfl,by simp⟩
 obtain⟨k,m,rfl,b⟩:=hrel;have H:=aa b;clear b;by_cases a:k<s.size
 ·by_cases c:s[k].toNat<32
  ·go_wp2
   go_ret;exact⟨aH (fL s k a (dP (.inl c))).symm,rfl⟩
  by_cases d:126<s[k].toNat
  ·go_wp2
   go_ret;exact⟨aH (fL s k a (dP (.inr (.inl d)))).symm,rfl⟩
  by_cases f:s[k].toNat=39
  ·go_wp2
   go_ret;exact⟨aH (fL s k a (dP (.inr (.inr f)))).symm,rfl⟩
  have l:((s[k].toNat:Int)==39)=false:=beq_eq_false_iff_ne.2 (by omega)
  go_wp2
  exact⟨⟨k+1,by omega,by go_num,wE s k a (wD c d f) H.out⟩,by simp[intOf];omega⟩
 obtain rfl:k=s.size:=by omega
 go_wp2
 go_ret;exact⟨aH (by have:=H.out;rw[yy (by simp)]at this;unfold qy;rw[this];simp;omega),rfl⟩
def jf(k n:Int)(l:List UInt8):Bool:=if k=0 then n==0&&l.isEmpty else if k=1 then l.isEmpty else if k=2 then n==0&&qy l else false
theorem fX(n:Int)(s:ByteArray)(k:Nat)(h:k<s.size)(hb:okB s[k]=false):jf 2 n s.data.toList=false:=by
 simp[jf,fL s k h hb]
theorem Ll(s:ByteArray)(h:¬ s.size<=12):decide ((s.size:Int)<=12)=jf 2 0 s.data.toList:=by
 have a:¬ (s.size:Int)<=12:=(by omega);rw[yw a];simp[jf,qy,h]
theorem zA(s:ByteArray)(h:s.size<=12)(ha:(s.data.toList.take s.size).all okB=true):decide ((s.size:Int)<=12)=jf 2 0 s.data.toList:=by
 have a:(s.size:Int)<=12:=(by omega);rw[yy (by simp)]at ha;unfold jf qy;rw[ha,xd a];simp[h]
theorem aN(w:World)(o:Obj):Below w.heap.size w (w.alloc o):=(zb _ _).alloc (zm _) o
theorem De(k n:Int)(s:ByteArray)(w:World)(hs:s.size<=maxLen):Calls prog 115 #[.agg #[.int .i64 k,.int .i64 n,.string s]] w fun e a=>e=.returned (.bool (jf k n s.data.toList))/\Below w.heap.size w a:=by
 by_cases b:k=0
 ·subst b;by_cases n0:n=0
  ·subst n0;go_enter func115,ntmps115
   go_wp2
   go_ret;refine⟨aH ?_,aN _ _⟩;simp[jf,wu]
  have nb:((n:Int)==0)=false:=beq_eq_false_iff_ne.2 n0;go_enter func115,ntmps115
  go_wp2
  go_ret;refine⟨aH ?_,aN _ _⟩;simp[jf,nb]
 by_cases c:k=1
 ·subst c;go_enter func115,ntmps115
  go_wp2
  go_ret;refine⟨aH ?_,aN _ _⟩;simp[jf,wu]
 by_cases d:k=2
 ·subst d;by_cases n0:n=0
  ·subst n0;go_enter func115,ntmps115;go_wp2_with (go_at_call 148;refine(wG _ _ hs).mono ?_;rintro e a⟨rfl,rfl⟩);go_ret;exact⟨rfl,aN _ _⟩
  have nb:((n:Int)==0)=false:=beq_eq_false_iff_ne.2 n0;go_enter func115,ntmps115
  go_wp2
  go_ret;refine⟨aH ?_,aN _ _⟩;simp[jf,nb]
 go_enter func115,ntmps115
 go_wp2
 go_ret;refine⟨aH ?_,aN _ _⟩;simp[jf,b,c,d]
theorem zD(k n:Int)(s:ByteArray)(w:World)(hs:s.size<=maxLen):Calls prog 106 #[.agg #[.int .i64 k,.int .i64 n,.string s]] w fun e m=>e=.returned (.bool (jf k n s.data.toList))/\Below w.heap.size w m:=by
 unfold maxLen at hs;by_cases d:k=0
 ·subst d;by_cases n0:n=0
  ·subst n0;go_enter func106,ntmps106
   go_wp2
   go_ret;refine⟨aH ?_,aN _ _⟩;simp[jf,wu]
  have nb:((n:Int)==0)=false:=beq_eq_false_iff_ne.2 n0;go_enter func106,ntmps106
  go_wp2
  go_ret;refine⟨aH ?_,aN _ _⟩;simp[jf,nb]
 by_cases f:k=1
 ·subst f;go_enter func106,ntmps106
  go_wp2
  go_ret;refine⟨aH ?_,aN _ _⟩;simp[jf,wu]
 by_cases g:k=2
 ·subst g;go_enter func106,ntmps106
  go_wp2
  go_loop [3] (fun i=>∃k:Nat,k<=s.size/\i=.int .i64 k/\(s.data.toList.take k).all okB=true) (fun i=>s.size-(intOf i).toNat)
  case atStart=>exact⟨0,zh _,rfl,by simp⟩
  obtain⟨k,p,rfl,b⟩:=hrel;have H:=aa b;clear b;by_cases a:k<s.size
  ·by_cases h:s[k].toNat<32
   ·go_wp2
    go_ret;exact⟨aH (fX n s k a (dP (.inl h))).symm,aN _ _⟩
   by_cases j:126<s[k].toNat
   ·go_wp2
    go_ret;exact⟨aH (fX n s k a (dP (.inr (.inl j)))).symm,aN _ _⟩
   by_cases l:s[k].toNat=39
   ·go_wp2
    go_ret;exact⟨aH (fX n s k a (dP (.inr (.inr l)))).symm,aN _ _⟩
   have o:((s[k].toNat:Int)==39)=false:=beq_eq_false_iff_ne.2 (by omega)
   go_wp2
   exact⟨⟨k+1,by omega,by go_num,wE s k a (wD h j l) H.out⟩,by simp[intOf];omega⟩
  obtain rfl:k=s.size:=(by omega);by_cases n0:n=0
  ·subst n0;by_cases c:s.size<=12
   ·go_wp2
    go_ret;exact⟨aH (zA s c H.out),aN _ _⟩
   go_wp2
   go_ret;exact⟨aH (Ll s c),aN _ _⟩
  have nb:((n:Int)==0)=false:=beq_eq_false_iff_ne.2 n0
  go_wp2
  go_ret;exact⟨aH (by simp[jf,nb]),aN _ _⟩
 go_enter func106,ntmps106
 go_wp2
 go_ret;refine⟨aH ?_,aN _ _⟩;simp[jf,d,f,g]
def lq(m:Nat)(s:ByteArray):ByteArray:=if m<s.size then s.extract 0 m else s
theorem Ly(m:Nat)(s:ByteArray):(lq m s).size<=m∨(lq m s).size<=s.size:=by
 unfold lq;split
 ·left;simp;omega
 right;omega
theorem sI(m:Nat)(s:ByteArray):(lq m s).size<=m:=by
 unfold lq;split
 ·simp;omega
 omega
theorem CV(s:ByteArray)(m:Int)(w:World)(_hs:s.size<=maxLen)(h0:0<=m)(_h1:m<=1000):Calls prog 55 #[.string s,.int .i64 m] w fun e a=>e=.returned (.string (lq m.toNat s))/\w=a:=by
 obtain⟨n,rfl⟩:=Int.eq_ofNat_of_zero_le h0;rw[v7];unfold lq;by_cases h:n<s.size
 ·rw[zv h];go_enter func55,ntmps55
  go_wp2
  go_ret;exact⟨rfl,rfl⟩
 rw[zq h];go_enter func55,ntmps55
 go_wp2
 go_ret;exact⟨rfl,rfl⟩
theorem F5(k n:Int)(s:ByteArray)(w:World)(hs:s.size<=maxLen):Calls prog 92 #[.agg #[.int .i64 k,.int .i64 n,.string s]] w fun e a=>e=.returned (.agg #[.int .i64 k,.int .i64 n,.string (lq 20 s)])/\Below w.heap.size w a:=by
 go_enter func92,ntmps92;go_wp2_with (go_at_call 55;refine(CV _ _ _ hs (by omega) (by omega)).mono ?_;rintro e a⟨rfl,rfl⟩);exact ya (v:=.agg #[.int .i64 k,.int .i64 n,.string (lq 20 s)]) (by simp[results,results92,go_sem]) rfl ⟨rfl,(aN _ _).alloc (by simp) _⟩
def AF(k1 n1:Int)(s1:ByteArray)(k2 n2:Int)(s2:ByteArray):Bool:=decide (k1=k2/\n1=n2/\s1=s2)
theorem dQ{a b:ByteArray}(h:a.data.toList=b.data.toList):a=b:=by
 obtain⟨⟨x⟩⟩:=a;obtain⟨⟨y⟩⟩:=b;simp at h;simp[h]
theorem kX(k1 n1:Int)(s1:ByteArray)(k2 n2:Int)(s2:ByteArray)(w:World):Calls prog 86 #[.agg #[.int .i64 k1,.int .i64 n1,.string s1],.agg #[.int .i64 k2,.int .i64 n2,.string s2]] w fun e c=>e=.returned (.bool (AF k1 n1 s1 k2 n2 s2))/\Below w.heap.size w c:=by
 by_cases a:k1=k2
 ·subst a;by_cases b:n1=n2
  ·subst b;go_enter func86,ntmps86
   go_wp2
   go_ret;refine⟨aH ?_,(aN _ _).alloc (by simp) _⟩;unfold AF;rw[vf,u9,wh,wu,wu];exact⟨fun h=>⟨rfl,rfl,dQ h⟩,fun h=>by rw[h.2.2]⟩
  have d:(n1==n2)=false:=beq_eq_false_iff_ne.2 b;go_enter func86,ntmps86
  go_wp2
  go_ret;refine⟨aH ?_,(aN _ _).alloc (by simp) _⟩;unfold AF;rw[eq_comm,vk];exact fun h=>b h.2.1
 have f:(k1==k2)=false:=beq_eq_false_iff_ne.2 a;go_enter func86,ntmps86
 go_wp2
 go_ret;refine⟨aH ?_,(aN _ _).alloc (by simp) _⟩;unfold AF;rw[eq_comm,vk];exact fun h=>a h.1
