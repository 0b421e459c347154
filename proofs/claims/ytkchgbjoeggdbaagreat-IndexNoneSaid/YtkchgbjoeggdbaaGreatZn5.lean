import Derived.Test.YtkchgbjoeggdbaaGreatZn4
import Derived.Lib.Bytealg
namespace Go.Proofs.YtkchgbjoeggdbaaGreat.Co
open Go Go.Proofs
abbrev K(M:Nat):Type:={s:ByteArray // s.size<=M}
def ld:Nat->List UInt8->Int
 | 0,_=>0
 | _+1,[]=>0
 | m+1,b::r=>((b.toNat:Int)+1)*257 ^ m+ld m r
theorem fY:∀(m:Nat) (l:List UInt8),0<=ld m l/\ld m l<257 ^ m
 | 0,_=>by simp[ld]
 | m+1,[]=>by
  refine⟨Int.le_refl _,?_⟩;rw[ld];exact Int.pow_pos (by decide)
 | m+1,b::r=>by
  obtain⟨c,d⟩:=fY m r;have e:b.toNat<256:=b.toNat_lt;have a:(0:Int)<257 ^ m:=Int.pow_pos (by decide);rw[ld,Int.pow_succ];generalize (257:Int) ^ m=P at *;have f:((b.toNat:Int)+1)*P<=256*P:=Int.mul_le_mul_of_nonneg_right (by omega) (Int.le_of_lt a);have g:0<=((b.toNat:Int)+1)*P:=Int.mul_nonneg (by omega) (Int.le_of_lt a);omega
theorem yW{m:Nat}{a b:UInt8}{r s:List UInt8}(h:a<b):ld (m+1) (a::r)<ld (m+1) (b::s):=by
 obtain⟨d,e⟩:=fY m r;obtain⟨f,g⟩:=fY m s;have c:a.toNat<b.toNat:=h;rw[ld,ld];generalize (257:Int) ^ m=P at *;have i:((a.toNat:Int)+1+1)*P<=((b.toNat:Int)+1)*P:=Int.mul_le_mul_of_nonneg_right (by omega) (by omega);have j:((a.toNat:Int)+1+1)*P=((a.toNat:Int)+1)*P+P:=(by rw[Int.add_mul (_+1),Int.one_mul]);omega
theorem uE{m:Nat}{b:UInt8}{s:List UInt8}:0<ld (m+1) (b::s):=by
 obtain⟨c,d⟩:=fY m s;have a:(0:Int)<257 ^ m:=Int.pow_pos (by decide);rw[ld];have:0<((b.toNat:Int)+1)*257 ^ m:=Int.mul_pos (by omega) a;omega
theorem nQ:∀(m:Nat) (l s:List UInt8),l.length<=m->s.length<=m->Lib.compareBytes l s=cy (ld m l) (ld m s)
 | 0,l,s,h1,h2=>by
  obtain rfl:=List.length_eq_zero_iff.1 (Nat.le_zero.1 h1);obtain rfl:=List.length_eq_zero_iff.1 (Nat.le_zero.1 h2);rfl
 | m+1,[],[],_,_=>by simp[Lib.compareBytes,cy]
 | m+1,[],b::s,_,_=>by
  have h:=uE (m:=m) (b:=b) (s:=s);rw[show ld (m+1) []=0 from rfl,Lib.compareBytes,cy,zw h]
 | m+1,a::r,[],_,_=>by
  have h:=uE (m:=m) (b:=a) (s:=r);rw[show ld (m+1) []=0 from rfl,Lib.compareBytes,cy,zu (by omega),zw h]
 | m+1,a::r,b::s,h1,h2=>by
  have f:=nQ m r s (by simpa using h1) (by simpa using h2);rw[Lib.compareBytes];by_cases c:a<b
  ·have:=yW (m:=m) (r:=r) (s:=s) c
   rw[zw c,cy,zw this]
  ·by_cases d:b<a
   ·have:=yW (m:=m) (r:=s) (s:=r) d
    rw[zu c,zw d,cy,zu (by omega),zw this]
   ·have e:a=b:=by
     have g:¬ a.toNat<b.toNat:=c;have i:¬ b.toNat<a.toNat:=d;exact UInt8.toNat_inj.1 (by omega)
    subst e;rw[zu c,zu c,f,ld,ld,cy,cy];simp only[Int.add_lt_add_iff_left]
def keyOf{M:Nat}(s:K M):Int:=ld M s.1.data.toList
theorem pH{M:Nat}(a b:K M):Lib.compareBytes a.1.data.toList b.1.data.toList=cy (keyOf a) (keyOf b):=
 nQ M _ _ (by have:=a.2;simpa using this) (by have:=b.2;simpa using this)
theorem Er{M:Nat}{a b:K M}:keyOf a=keyOf b↔a.1=b.1:=by
 constructor
 ·intro h;have c:=pH a b;rw[h,cE.2 rfl]at c
  have:∀(l s:List UInt8),Lib.compareBytes l s=0->l=s:=by
   intro l
   induction l with
   | nil=>intro s h;cases s with
    | nil=>rfl
    | cons b s=>simp[Lib.compareBytes]at h
   | cons a r ih=>intro s h;cases s with
    | nil=>simp[Lib.compareBytes]at h
    | cons b s =>
     rw[Lib.compareBytes]at h;split at h
     ·simp at h
     ·split at h
      ·simp at h
      ·rename_i d f;have g:¬ a.toNat<b.toNat:=d;have i:¬ b.toNat<a.toNat:=f;rw[ih s h,UInt8.toNat_inj.1 (show a.toNat=b.toNat by omega)]
  have e:=this _ _ c;obtain⟨⟨⟨x⟩⟩,_⟩:=a;obtain⟨⟨⟨y⟩⟩,_⟩:=b;simp at e;simp[e]
 intro h;unfold keyOf;rw[h]
