import Derived.Test.YthlccadnojnkaaaGreatZk1
import Derived.Test.YthlccadnojnkaaaGreatProg
import Derived.WalkKit
import Derived.WalkLawsBesides
import Derived.WalkSpells
import Derived.Outline
import Derived.Lib.Hide
import Derived.Below
import Derived.StillTailTactics
set_option maxHeartbeats 400000
namespace Go.Proofs.YthlccadnojnkaaaGreat.Co
open Go Go.RowKit
def okB (c:UInt8):Bool:=32<=c.toNat&&c.toNat<=126&&c.toNat != 39
def mayT (l:List UInt8):Bool:=decide (l.length<=12)&&l.all okB
theorem aCm (s:ByteArray) (k:Nat) (h:k<s.size):s.data.toList.take (k+1)=s.data.toList.take k++[s[k]]:=by
 rw[List.take_succ_eq_append_getElem (by simpa using h)];rfl
theorem dP {c:UInt8} (h:c.toNat<32∨126<c.toNat∨c.toNat=39):okB c=false:=by
 unfold okB;rcases h with h|h|h <;> simp <;> omega
theorem wD {c:UInt8} (h1:¬ c.toNat<32) (h2:¬ 126<c.toNat) (h3:¬ c.toNat=39):okB c=true:=by
 unfold okB;simp;omega
theorem aCn (s:ByteArray) (k:Nat) (h:k<s.size) (hb:okB s[k]=false):s.data.toList.all okB=false:=by
 rw[List.all_eq_false];exact⟨s[k],by show s.data[k]∈s.data.toList;simp,by simp[hb]⟩
theorem fL (s:ByteArray) (k:Nat) (h:k<s.size) (hb:okB s[k]=false):mayT s.data.toList=false:=by
 unfold mayT;rw[aCn s k h hb];simp
theorem aH {a b:Bool} (h:a=b):Ending.returned (.bool a)=.returned (.bool b):=by rw[h]
theorem wE (s:ByteArray) (k:Nat) (h:k<s.size) (hb:okB s[k]=true) (ha:(s.data.toList.take k).all okB=true):(s.data.toList.take (k+1)).all okB=true:=by
 rw[aCm s k h,List.all_append,ha];simp[hb]
theorem wG (s:ByteArray) (w:World) (hs:s.size<=maxLen) :
  Calls Tryz.prog 148 #[.string s] w fun e w'=>e=.returned (.bool (mayT s.data.toList))/\w=w':=by
 unfold maxLen at hs;go_enter Tryz.func148,Tryz.ntmps148;by_cases h12:12<s.size
 ·go_wp2
  go_ret;exact⟨aH (by unfold mayT;simp;intro h;omega),rfl⟩
 go_wp2
 go_loop [3] (fun i=>∃ k:Nat,k<=s.size/\i=.int .i64 k/\(s.data.toList.take k).all okB=true) (fun i=>s.size-(intOf i).toNat)
 case atStart=>exact⟨0,Nat.zero_le _,rfl,by simp⟩
 obtain⟨k,hk,rfl,hall⟩:=hrel;have H:=qAq hall;clear hall;by_cases hlt:k<s.size
 ·by_cases h1:s[k].toNat<32
  ·go_wp2
   go_ret;exact⟨aH (fL s k hlt (dP (.inl h1))).symm,rfl⟩
  by_cases h2:126<s[k].toNat
  ·go_wp2
   go_ret;exact⟨aH (fL s k hlt (dP (.inr (.inl h2)))).symm,rfl⟩
  by_cases h3:s[k].toNat=39
  ·go_wp2
   go_ret;exact⟨aH (fL s k hlt (dP (.inr (.inr h3)))).symm,rfl⟩
  have h3b:((s[k].toNat:Int)==39)=false:=beq_eq_false_iff_ne.2 (by omega)
  go_wp2
  exact⟨⟨k+1,by omega,by go_num,wE s k hlt (wD h1 h2 h3) H.out⟩,by simp[intOf];omega⟩
 obtain rfl:k=s.size:=by omega
 go_wp2
 go_ret;exact⟨aH (by have:=H.out;rw[List.take_of_length_le (by simp)] at this;unfold mayT;rw[this];simp;omega),rfl⟩
def mayV (k n:Int) (l:List UInt8):Bool:=if k=0 then n==0&&l.isEmpty else if k=1 then l.isEmpty else if k=2 then n==0&&mayT l else false
theorem fX (n:Int) (s:ByteArray) (k:Nat) (h:k<s.size) (hb:okB s[k]=false):mayV 2 n s.data.toList=false:=by
 simp[mayV,fL s k h hb]
theorem aCo (s:ByteArray) (h:¬ s.size<=12):decide ((s.size:Int)<=12)=mayV 2 0 s.data.toList:=by
 have h':¬ (s.size:Int)<=12:=(by omega);rw[decide_eq_false h'];simp[mayV,mayT,h]
theorem zA (s:ByteArray) (h:s.size<=12) (ha:(s.data.toList.take s.size).all okB=true):decide ((s.size:Int)<=12)=mayV 2 0 s.data.toList:=by
 have h':(s.size:Int)<=12:=(by omega);rw[List.take_of_length_le (by simp)] at ha;unfold mayV mayT;rw[ha,decide_eq_true h'];simp[h]
theorem aN (w:World) (o:Obj):Below w.heap.size w (w.alloc o):=(Below.refl _ _).alloc (Nat.le_refl _) o
theorem aAP (k n:Int) (s:ByteArray) (w:World) (hs:s.size<=maxLen) :
  Calls Tryz.prog 115 #[.agg #[.int .i64 k,.int .i64 n,.string s]] w fun e w'=>e=.returned (.bool (mayV k n s.data.toList))/\Below w.heap.size w w':=by
 by_cases k0:k=0
 ·subst k0;by_cases n0:n=0
  ·subst n0;go_enter Tryz.func115,Tryz.ntmps115
   go_wp2
   go_ret;refine⟨aH ?_,aN _ _⟩;simp[mayV,ByteArray.toList_eq]
  have nb:((n:Int)==0)=false:=beq_eq_false_iff_ne.2 n0;go_enter Tryz.func115,Tryz.ntmps115
  go_wp2
  go_ret;refine⟨aH ?_,aN _ _⟩;simp[mayV,nb]
 by_cases k1:k=1
 ·subst k1;go_enter Tryz.func115,Tryz.ntmps115
  go_wp2
  go_ret;refine⟨aH ?_,aN _ _⟩;simp[mayV,ByteArray.toList_eq]
 by_cases k2:k=2
 ·subst k2;by_cases n0:n=0
  ·subst n0;go_enter Tryz.func115,Tryz.ntmps115;go_wp2_with (go_at_call 148;refine (wG _ _ hs).mono ?_;rintro e w' ⟨rfl,rfl⟩);go_ret;exact⟨rfl,aN _ _⟩
  have nb:((n:Int)==0)=false:=beq_eq_false_iff_ne.2 n0;go_enter Tryz.func115,Tryz.ntmps115
  go_wp2
  go_ret;refine⟨aH ?_,aN _ _⟩;simp[mayV,nb]
 go_enter Tryz.func115,Tryz.ntmps115
 go_wp2
 go_ret;refine⟨aH ?_,aN _ _⟩;simp[mayV,k0,k1,k2]
theorem zD (k n:Int) (s:ByteArray) (w:World) (hs:s.size<=maxLen) :
  Calls Tryz.prog 106 #[.agg #[.int .i64 k,.int .i64 n,.string s]] w fun e w'=>e=.returned (.bool (mayV k n s.data.toList))/\Below w.heap.size w w':=by
 unfold maxLen at hs;by_cases k0:k=0
 ·subst k0;by_cases n0:n=0
  ·subst n0;go_enter Tryz.func106,Tryz.ntmps106
   go_wp2
   go_ret;refine⟨aH ?_,aN _ _⟩;simp[mayV,ByteArray.toList_eq]
  have nb:((n:Int)==0)=false:=beq_eq_false_iff_ne.2 n0;go_enter Tryz.func106,Tryz.ntmps106
  go_wp2
  go_ret;refine⟨aH ?_,aN _ _⟩;simp[mayV,nb]
 by_cases k1:k=1
 ·subst k1;go_enter Tryz.func106,Tryz.ntmps106
  go_wp2
  go_ret;refine⟨aH ?_,aN _ _⟩;simp[mayV,ByteArray.toList_eq]
 by_cases k2:k=2
 ·subst k2;go_enter Tryz.func106,Tryz.ntmps106
  go_wp2
  go_loop [3] (fun i=>∃ k:Nat,k<=s.size/\i=.int .i64 k/\(s.data.toList.take k).all okB=true) (fun i=>s.size-(intOf i).toNat)
  case atStart=>exact⟨0,Nat.zero_le _,rfl,by simp⟩
  obtain⟨k,hk,rfl,hall⟩:=hrel;have H:=qAq hall;clear hall;by_cases hlt:k<s.size
  ·by_cases h1:s[k].toNat<32
   ·go_wp2
    go_ret;exact⟨aH (fX n s k hlt (dP (.inl h1))).symm,aN _ _⟩
   by_cases h2:126<s[k].toNat
   ·go_wp2
    go_ret;exact⟨aH (fX n s k hlt (dP (.inr (.inl h2)))).symm,aN _ _⟩
   by_cases h3:s[k].toNat=39
   ·go_wp2
    go_ret;exact⟨aH (fX n s k hlt (dP (.inr (.inr h3)))).symm,aN _ _⟩
   have h3b:((s[k].toNat:Int)==39)=false:=beq_eq_false_iff_ne.2 (by omega)
   go_wp2
   exact⟨⟨k+1,by omega,by go_num,wE s k hlt (wD h1 h2 h3) H.out⟩,by simp[intOf];omega⟩
  obtain rfl:k=s.size:=(by omega);by_cases n0:n=0
  ·subst n0;by_cases h12:s.size<=12
   ·go_wp2
    go_ret;exact⟨aH (zA s h12 H.out),aN _ _⟩
   go_wp2
   go_ret;exact⟨aH (aCo s h12),aN _ _⟩
  have nb:((n:Int)==0)=false:=beq_eq_false_iff_ne.2 n0
  go_wp2
  go_ret;exact⟨aH (by simp[mayV,nb]),aN _ _⟩
 go_enter Tryz.func106,Tryz.ntmps106
 go_wp2
 go_ret;refine⟨aH ?_,aN _ _⟩;simp[mayV,k0,k1,k2]
def cutB (m:Nat) (s:ByteArray):ByteArray:=if m<s.size then s.extract 0 m else s
theorem aHS (m:Nat) (s:ByteArray):(cutB m s).size<=m∨(cutB m s).size<=s.size:=by
 unfold cutB;split
 ·left;simp;omega
 right;omega
theorem sI (m:Nat) (s:ByteArray):(cutB m s).size<=m:=by
 unfold cutB;split
 ·simp;omega
 omega
theorem aAQ (s:ByteArray) (m:Int) (w:World) (_hs:s.size<=maxLen) (h0:0<=m) (_h1:m<=1000) :
  Calls Tryz.prog 55 #[.string s,.int .i64 m] w fun e w'=>e=.returned (.string (cutB m.toNat s))/\w=w':=by
 obtain⟨n,rfl⟩:=Int.eq_ofNat_of_zero_le h0;rw[Int.toNat_natCast];unfold cutB;by_cases h:n<s.size
 ·rw[if_pos h];go_enter Tryz.func55,Tryz.ntmps55
  go_wp2
  go_ret;exact⟨rfl,rfl⟩
 rw[if_neg h];go_enter Tryz.func55,Tryz.ntmps55
 go_wp2
 go_ret;exact⟨rfl,rfl⟩
theorem aGy (k n:Int) (s:ByteArray) (w:World) (hs:s.size<=maxLen) :
  Calls Tryz.prog 92 #[.agg #[.int .i64 k,.int .i64 n,.string s]] w fun e w'=>e=.returned (.agg #[.int .i64 k,.int .i64 n,.string (cutB 20 s)])/\Below w.heap.size w w':=by
 go_enter Tryz.func92,Tryz.ntmps92;go_wp2_with (go_at_call 55;refine (aAQ _ _ _ hs (by omega) (by omega)).mono ?_;rintro e w' ⟨rfl,rfl⟩);exact bodyPost_ret (v:=.agg #[.int .i64 k,.int .i64 n,.string (cutB 20 s)]) (by simp[results,Tryz.results92,go_sem]) rfl ⟨rfl,(aN _ _).alloc (by simp) _⟩
def eqV (k1 n1:Int) (s1:ByteArray) (k2 n2:Int) (s2:ByteArray):Bool:=decide (k1=k2/\n1=n2/\s1=s2)
theorem dQ {a b:ByteArray} (h:a.data.toList=b.data.toList):a=b:=by
 obtain⟨⟨x⟩⟩:=a;obtain⟨⟨y⟩⟩:=b;simp at h;simp[h]
theorem kX (k1 n1:Int) (s1:ByteArray) (k2 n2:Int) (s2:ByteArray) (w:World) :
  Calls Tryz.prog 86 #[.agg #[.int .i64 (k1),.int .i64 (n1),.string (s1)],.agg #[.int .i64 (k2),.int .i64 (n2),.string (s2)]] w fun e w'=>e=.returned (.bool (eqV k1 n1 s1 k2 n2 s2))/\Below w.heap.size w w':=by
 by_cases hk:k1=k2
 ·subst hk;by_cases hn:n1=n2
  ·subst hn;go_enter Tryz.func86,Tryz.ntmps86
   go_wp2
   go_ret;refine⟨aH ?_,(aN _ _).alloc (by simp) _⟩;unfold eqV;rw[Bool.eq_iff_iff,beq_iff_eq,decide_eq_true_eq,ByteArray.toList_eq,ByteArray.toList_eq];exact⟨fun h=>⟨rfl,rfl,dQ h⟩,fun h=>by rw[h.2.2]⟩
  have hnb:(n1==n2)=false:=beq_eq_false_iff_ne.2 hn;go_enter Tryz.func86,Tryz.ntmps86
  go_wp2
  go_ret;refine⟨aH ?_,(aN _ _).alloc (by simp) _⟩;unfold eqV;rw[eq_comm,decide_eq_false_iff_not];exact fun h=>hn h.2.1
 have hkb:(k1==k2)=false:=beq_eq_false_iff_ne.2 hk;go_enter Tryz.func86,Tryz.ntmps86
 go_wp2
 go_ret;refine⟨aH ?_,(aN _ _).alloc (by simp) _⟩;unfold eqV;rw[eq_comm,decide_eq_false_iff_not];exact fun h=>hk h.1
