import Derived.Test.YtkchgbjoeggdbaaGreatZn1
import Derived.Test.YtkchgbjoeggdbaaGreatProg
import Derived.WalkLawsBesides
import Derived.WalkSpells
import Derived.StillTailTactics
set_option maxHeartbeats 400000
namespace Go.Proofs.YtkchgbjoeggdbaaGreat.Co
open Go.Proofs.Tryz
open Go Go.RowKit
def okB(c:UInt8):Bool:=32<=c.toNat&&c.toNat<=126&&c.toNat != 39
def qq(l:List UInt8):Bool:=decide (l.length<=12)&&l.all okB
theorem Iw(s:ByteArray)(k:Nat)(h:k<s.size):s.data.toList.take (k+1)=s.data.toList.take k++[s[k]]:=by
 rw[yi (by simpa using h)];rfl
theorem cX{c:UInt8}(h:c.toNat<32∨126<c.toNat∨c.toNat=39):okB c=false:=by
 unfold okB;rcases h with h|h|h <;> simp <;> omega
theorem uP{c:UInt8}(h1:¬ c.toNat<32)(h2:¬ 126<c.toNat)(h3:¬ c.toNat=39):okB c=true:=by
 unfold okB;simp;omega
theorem Fs(s:ByteArray)(k:Nat)(h:k<s.size)(hb:okB s[k]=false):s.data.toList.all okB=false:=by
 rw[List.all_eq_false];exact⟨s[k],by show s.data[k]∈s.data.toList;simp,by simp[hb]⟩
theorem eW(s:ByteArray)(k:Nat)(h:k<s.size)(hb:okB s[k]=false):qq s.data.toList=false:=by
 unfold qq;rw[Fs s k h hb];simp
theorem aH{a b:Bool}(h:a=b):Ending.returned (.bool a)=.returned (.bool b):=by rw[h]
theorem uQ(s:ByteArray)(k:Nat)(h:k<s.size)(hb:okB s[k]=true)(ha:(s.data.toList.take k).all okB=true):(s.data.toList.take (k+1)).all okB=true:=by
 rw[Iw s k h,List.all_append,ha];simp[hb]
theorem uR(s:ByteArray)(w:World)(hs:s.size<=maxLen):Calls prog 152 #[.string s] w fun e g=>e=.returned (.bool (qq s.data.toList))/\w=g:=by
 unfold maxLen at hs;go_enter func152,ntmps152;by_cases j:12<s.size
 ·go_wp2
  go_ret;exact⟨aH (by unfold qq;simp;intro h;omega),rfl⟩
 go_wp2
 go_loop [3] (fun i=>∃k:Nat,k<=s.size/\i=.int .i64 k/\(s.data.toList.take k).all okB=true) (fun i=>s.size-(intOf i).toNat)
 case atStart=>exact⟨0,zj _,rfl,by simp⟩
 obtain⟨k,m,rfl,b⟩:=hrel;have H:=aa b;clear b;by_cases a:k<s.size
 ·by_cases c:s[k].toNat<32
  ·go_wp2
   go_ret;exact⟨aH (eW s k a (cX (.inl c))).symm,rfl⟩
  by_cases d:126<s[k].toNat
  ·go_wp2
   go_ret;exact⟨aH (eW s k a (cX (.inr (.inl d)))).symm,rfl⟩
  by_cases f:s[k].toNat=39
  ·go_wp2
   go_ret;exact⟨aH (eW s k a (cX (.inr (.inr f)))).symm,rfl⟩
  have l:((s[k].toNat:Int)==39)=false:=beq_eq_false_iff_ne.2 (by omega)
  go_wp2
  exact⟨⟨k+1,by omega,by go_num,uQ s k a (uP c d f) H.out⟩,by simp[intOf];omega⟩
 obtain rfl:k=s.size:=by omega
 go_wp2
 go_ret;exact⟨aH (by have:=H.out;rw[yu (by simp)]at this;unfold qq;rw[this];simp;omega),rfl⟩
def jh(k n:Int)(l:List UInt8):Bool:=if k=0 then n==0&&l.isEmpty else if k=1 then l.isEmpty else if k=2 then n==0&&qq l else false
theorem fM(n:Int)(s:ByteArray)(k:Nat)(h:k<s.size)(hb:okB s[k]=false):jh 2 n s.data.toList=false:=by
 simp[jh,eW s k h hb]
theorem DF(s:ByteArray)(h:¬ s.size<=12):decide ((s.size:Int)<=12)=jh 2 0 s.data.toList:=by
 have a:¬ (s.size:Int)<=12:=(by omega);rw[yp a];simp[jh,qq,h]
theorem xG(s:ByteArray)(h:s.size<=12)(ha:(s.data.toList.take s.size).all okB=true):decide ((s.size:Int)<=12)=jh 2 0 s.data.toList:=by
 have a:(s.size:Int)<=12:=(by omega);rw[yu (by simp)]at ha;unfold jh qq;rw[ha,yy a];simp[h]
theorem aJ(w:World)(o:Obj):Below w.heap.size w (w.alloc o):=(zg _ _).alloc (zo _) o
theorem yX(k n:Int)(s:ByteArray)(w:World)(hs:s.size<=maxLen):Calls prog 125 #[.agg #[.int .i64 k,.int .i64 n,.string s]] w fun e a=>e=.returned (.bool (jh k n s.data.toList))/\Below w.heap.size w a:=by
 by_cases b:k=0
 ·subst b;by_cases n0:n=0
  ·subst n0;go_enter func125,ntmps125
   go_wp2
   go_ret;refine⟨aH ?_,aJ _ _⟩;simp[jh,wj]
  have nb:((n:Int)==0)=false:=beq_eq_false_iff_ne.2 n0;go_enter func125,ntmps125
  go_wp2
  go_ret;refine⟨aH ?_,aJ _ _⟩;simp[jh,nb]
 by_cases c:k=1
 ·subst c;go_enter func125,ntmps125
  go_wp2
  go_ret;refine⟨aH ?_,aJ _ _⟩;simp[jh,wj]
 by_cases d:k=2
 ·subst d;by_cases n0:n=0
  ·subst n0;go_enter func125,ntmps125;go_wp2_with (go_at_call 152;refine(uR _ _ hs).mono ?_;rintro e a⟨rfl,rfl⟩);go_ret;exact⟨rfl,aJ _ _⟩
  have nb:((n:Int)==0)=false:=beq_eq_false_iff_ne.2 n0;go_enter func125,ntmps125
  go_wp2
  go_ret;refine⟨aH ?_,aJ _ _⟩;simp[jh,nb]
 go_enter func125,ntmps125
 go_wp2
 go_ret;refine⟨aH ?_,aJ _ _⟩;simp[jh,b,c,d]
theorem xH(k n:Int)(s:ByteArray)(w:World)(hs:s.size<=maxLen):Calls prog 124 #[.agg #[.int .i64 k,.int .i64 n,.string s]] w fun e m=>e=.returned (.bool (jh k n s.data.toList))/\Below w.heap.size w m:=by
 unfold maxLen at hs;by_cases d:k=0
 ·subst d;by_cases n0:n=0
  ·subst n0;go_enter func124,ntmps124
   go_wp2
   go_ret;refine⟨aH ?_,aJ _ _⟩;simp[jh,wj]
  have nb:((n:Int)==0)=false:=beq_eq_false_iff_ne.2 n0;go_enter func124,ntmps124
  go_wp2
  go_ret;refine⟨aH ?_,aJ _ _⟩;simp[jh,nb]
 by_cases f:k=1
 ·subst f;go_enter func124,ntmps124
  go_wp2
  go_ret;refine⟨aH ?_,aJ _ _⟩;simp[jh,wj]
 by_cases g:k=2
 ·subst g;go_enter func124,ntmps124
  go_wp2
  go_loop [3] (fun i=>∃k:Nat,k<=s.size/\i=.int .i64 k/\(s.data.toList.take k).all okB=true) (fun i=>s.size-(intOf i).toNat)
  case atStart=>exact⟨0,zj _,rfl,by simp⟩
  obtain⟨k,p,rfl,b⟩:=hrel;have H:=aa b;clear b;by_cases a:k<s.size
  ·by_cases h:s[k].toNat<32
   ·go_wp2
    go_ret;exact⟨aH (fM n s k a (cX (.inl h))).symm,aJ _ _⟩
   by_cases j:126<s[k].toNat
   ·go_wp2
    go_ret;exact⟨aH (fM n s k a (cX (.inr (.inl j)))).symm,aJ _ _⟩
   by_cases l:s[k].toNat=39
   ·go_wp2
    go_ret;exact⟨aH (fM n s k a (cX (.inr (.inr l)))).symm,aJ _ _⟩
   have o:((s[k].toNat:Int)==39)=false:=beq_eq_false_iff_ne.2 (by omega)
   go_wp2
   exact⟨⟨k+1,by omega,by go_num,uQ s k a (uP h j l) H.out⟩,by simp[intOf];omega⟩
  obtain rfl:k=s.size:=(by omega);by_cases n0:n=0
  ·subst n0;by_cases c:s.size<=12
   ·go_wp2
    go_ret;exact⟨aH (xG s c H.out),aJ _ _⟩
   go_wp2
   go_ret;exact⟨aH (DF s c),aJ _ _⟩
  have nb:((n:Int)==0)=false:=beq_eq_false_iff_ne.2 n0
  go_wp2
  go_ret;exact⟨aH (by simp[jh,nb]),aJ _ _⟩
 go_enter func124,ntmps124
 go_wp2
 go_ret;refine⟨aH ?_,aJ _ _⟩;simp[jh,d,f,g]
def AS(m:Nat)(s:ByteArray):ByteArray:=if m<s.size then s.extract 0 m else s
def Al(k1 n1:Int)(s1:ByteArray)(k2 n2:Int)(s2:ByteArray):Bool:=decide (k1=k2/\n1=n2/\s1=s2)
theorem cY{a b:ByteArray}(h:a.data.toList=b.data.toList):a=b:=by
 obtain⟨⟨x⟩⟩:=a;obtain⟨⟨y⟩⟩:=b;simp at h;simp[h]
theorem jX(k1 n1:Int)(s1:ByteArray)(k2 n2:Int)(s2:ByteArray)(w:World):Calls prog 210 #[.agg #[.int .i64 k1,.int .i64 n1,.string s1],.agg #[.int .i64 k2,.int .i64 n2,.string s2]] w fun e c=>e=.returned (.bool (Al k1 n1 s1 k2 n2 s2))/\Below w.heap.size w c:=by
 by_cases a:k1=k2
 ·subst a;by_cases b:n1=n2
  ·subst b;go_enter func210,ntmps210
   go_wp2
   go_ret;refine⟨aH ?_,(aJ _ _).alloc (by simp) _⟩;unfold Al;rw[wu,vq,xz,wj,wj];exact⟨fun h=>⟨rfl,rfl,cY h⟩,fun h=>by rw[h.2.2]⟩
  have d:(n1==n2)=false:=beq_eq_false_iff_ne.2 b;go_enter func210,ntmps210
  go_wp2
  go_ret;refine⟨aH ?_,(aJ _ _).alloc (by simp) _⟩;unfold Al;rw[eq_comm,ww];exact fun h=>b h.2.1
 have f:(k1==k2)=false:=beq_eq_false_iff_ne.2 a;go_enter func210,ntmps210
 go_wp2
 go_ret;refine⟨aH ?_,(aJ _ _).alloc (by simp) _⟩;unfold Al;rw[eq_comm,ww];exact fun h=>a h.1
