import Derived.Test.YthlccadnojnkaaaGreatZk1
import Derived.Test.YthlccadnojnkaaaGreatZk4
import Derived.Lib.Bytealg
namespace Go.Proofs.YthlccadnojnkaaaGreat.Co
open Go Go.Proofs
abbrev K (M:Nat):Type:={s:ByteArray // s.size<=M}
def keyL:Nat->List UInt8->Int
 | 0,_=>0
 | _+1,[]=>0
 | m+1,b::r=>((b.toNat:Int)+1)*257 ^ m+keyL m r
theorem lW:∀ (m:Nat) (l:List UInt8),0<=keyL m l/\keyL m l<257 ^ m
 | 0,_=>by simp[keyL]
 | m+1,[]=>by
  refine⟨Int.le_refl _,?_⟩;rw[keyL];exact Int.pow_pos (by decide)
 | m+1,b::r=>by
  obtain⟨h1,h2⟩:=lW m r;have hb:b.toNat<256:=b.toNat_lt;have hp:(0:Int)<257 ^ m:=Int.pow_pos (by decide);rw[keyL,Int.pow_succ];generalize (257:Int) ^ m=P at *;have h3:((b.toNat:Int)+1)*P<=256*P:=Int.mul_le_mul_of_nonneg_right (by omega) (Int.le_of_lt hp);have h4:0<=((b.toNat:Int)+1)*P:=Int.mul_nonneg (by omega) (Int.le_of_lt hp);omega
theorem aAt {m:Nat} {a b:UInt8} {r s:List UInt8} (h:a<b):keyL (m+1) (a::r)<keyL (m+1) (b::s):=by
 obtain⟨h1,h2⟩:=lW m r;obtain⟨h3,h4⟩:=lW m s;have hab:a.toNat<b.toNat:=h;rw[keyL,keyL];generalize (257:Int) ^ m=P at *;have h5:((a.toNat:Int)+1+1)*P<=((b.toNat:Int)+1)*P:=Int.mul_le_mul_of_nonneg_right (by omega) (by omega);have h6:((a.toNat:Int)+1+1)*P=((a.toNat:Int)+1)*P+P:=(by rw[Int.add_mul (_+1),Int.one_mul]);omega
theorem uU {m:Nat} {b:UInt8} {s:List UInt8}:0<keyL (m+1) (b::s):=by
 obtain⟨h3,h4⟩:=lW m s;have hp:(0:Int)<257 ^ m:=Int.pow_pos (by decide);rw[keyL];have:0<((b.toNat:Int)+1)*257 ^ m:=Int.mul_pos (by omega) hp;omega
theorem uV:∀ (m:Nat) (l s:List UInt8),l.length<=m->s.length<=m->Lib.compareBytes l s=cmp3 (keyL m l) (keyL m s)
 | 0,l,s,h1,h2=>by
  obtain rfl:=List.length_eq_zero_iff.1 (Nat.le_zero.1 h1);obtain rfl:=List.length_eq_zero_iff.1 (Nat.le_zero.1 h2);rfl
 | m+1,[],[],_,_=>by simp[Lib.compareBytes,cmp3]
 | m+1,[],b::s,_,_=>by
  have h:=uU (m:=m) (b:=b) (s:=s);rw[show keyL (m+1) []=0 from rfl,Lib.compareBytes,cmp3,if_pos h]
 | m+1,a::r,[],_,_=>by
  have h:=uU (m:=m) (b:=a) (s:=r);rw[show keyL (m+1) []=0 from rfl,Lib.compareBytes,cmp3,if_neg (by omega),if_pos h]
 | m+1,a::r,b::s,h1,h2=>by
  have ih:=uV m r s (by simpa using h1) (by simpa using h2);rw[Lib.compareBytes];by_cases hab:a<b
  ·have:=aAt (m:=m) (r:=r) (s:=s) hab
   rw[if_pos hab,cmp3,if_pos this]
  ·by_cases hba:b<a
   ·have:=aAt (m:=m) (r:=s) (s:=r) hba
    rw[if_neg hab,if_pos hba,cmp3,if_neg (by omega),if_pos this]
   ·have e:a=b:=by
     have h3:¬ a.toNat<b.toNat:=hab;have h4:¬ b.toNat<a.toNat:=hba;exact UInt8.toNat_inj.1 (by omega)
    subst e;rw[if_neg hab,if_neg hab,ih,keyL,keyL,cmp3,cmp3];simp only[Int.add_lt_add_iff_left]
def keyOf {M:Nat} (s:K M):Int:=keyL M s.1.data.toList
theorem qC {M:Nat} (a b:K M):Lib.compareBytes a.1.data.toList b.1.data.toList=cmp3 (keyOf a) (keyOf b) :=
 uV M _ _ (by have:=a.2;simpa using this) (by have:=b.2;simpa using this)
theorem aBS {M:Nat} {a b:K M}:keyOf a=keyOf b↔a.1=b.1:=by
 constructor
 ·intro h;have hc:=qC a b;rw[h,gM.2 rfl] at hc
  have:∀ (l s:List UInt8),Lib.compareBytes l s=0->l=s:=by
   intro l
   induction l with
   | nil=>intro s h;cases s with
    | nil=>rfl
    | cons b s=>simp[Lib.compareBytes] at h
   | cons a r ih=>intro s h;cases s with
    | nil=>simp[Lib.compareBytes] at h
    | cons b s =>
     rw[Lib.compareBytes] at h;split at h
     ·simp at h
     ·split at h
      ·simp at h
      ·rename_i h1 h2;have h3:¬ a.toNat<b.toNat:=h1;have h4:¬ b.toNat<a.toNat:=h2;rw[ih s h,UInt8.toNat_inj.1 (show a.toNat=b.toNat by omega)]
  have e:=this _ _ hc;obtain⟨⟨⟨x⟩⟩,_⟩:=a;obtain⟨⟨⟨y⟩⟩,_⟩:=b;simp at e;simp[e]
 intro h;unfold keyOf;rw[h]
