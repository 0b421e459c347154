import Derived.Test.YtgbkmjnnlkgpnaaGreatZe1
import Derived.Test.YtgbkmjnnlkgpnaaGreatProg
import Derived.WalkKit
import Derived.WalkLawsBesides
import Derived.WalkSpells
import Derived.Outline
import Derived.Lib.Hide
import Derived.Below
import Derived.StillTailTactics
set_option maxHeartbeats 400000
namespace Go.Proofs.YtgbkmjnnlkgpnaaGreat.Co
open Go Go.RowKit
def okB (c:UInt8):Bool:=32<=c.toNat&&c.toNat<=126&&c.toNat != 39
def qY (l:List UInt8):Bool:=decide (l.length<=12)&&l.all okB
theorem take_snoc (s:ByteArray) (k:Nat) (h:k<s.size):s.data.toList.take (k+1)=s.data.toList.take k++[s[k]]:=by
 rw[List.take_succ_eq_append_getElem (by simpa using h)];rfl
theorem fD {c:UInt8} (h:c.toNat<32∨126<c.toNat∨c.toNat=39):okB c=false:=by
 unfold okB;rcases h with h|h|h <;> simp <;> omega
theorem xI {c:UInt8} (h1:¬ c.toNat<32) (h2:¬ 126<c.toNat) (h3:¬ c.toNat=39):okB c=true:=by
 unfold okB;simp;omega
theorem aCu (s:ByteArray) (k:Nat) (h:k<s.size) (hb:okB s[k]=false):s.data.toList.all okB=false:=by
 rw[List.all_eq_false];exact⟨s[k],by show s.data[k]∈s.data.toList;simp,by simp[hb]⟩
theorem iA (s:ByteArray) (k:Nat) (h:k<s.size) (hb:okB s[k]=false):qY s.data.toList=false:=by
 unfold qY;rw[aCu s k h hb];simp
theorem aF {a b:Bool} (h:a=b):Ending.returned (.bool a)=.returned (.bool b):=by rw[h]
theorem xJ (s:ByteArray) (k:Nat) (h:k<s.size) (hb:okB s[k]=true) (ha:(s.data.toList.take k).all okB=true):(s.data.toList.take (k+1)).all okB=true:=by
 rw[take_snoc s k h,List.all_append,ha];simp[hb]
theorem xK (s:ByteArray) (w:World) (hs:s.size<=maxLen) :
  Calls Tryz.prog 136 #[.string s] w fun e w'=>e=.returned (.bool (qY s.data.toList))/\w=w':=by
 unfold maxLen at hs;go_enter Tryz.func136,Tryz.ntmps136;by_cases h12:12<s.size
 ·go_wp2
  go_ret;exact⟨aF (by unfold qY;simp;intro h;omega),rfl⟩
 go_wp2
 go_loop [3] (fun i=>∃ k:Nat,k<=s.size/\i=.int .i64 k/\(s.data.toList.take k).all okB=true) (fun i=>s.size-(intOf i).toNat)
 case atStart=>exact⟨0,Nat.zero_le _,rfl,by simp⟩
 obtain⟨k,hk,rfl,hall⟩:=hrel;have H:=qAq hall;clear hall;by_cases hlt:k<s.size
 ·by_cases h1:s[k].toNat<32
  ·go_wp2
   go_ret;exact⟨aF (iA s k hlt (fD (.inl h1))).symm,rfl⟩
  by_cases h2:126<s[k].toNat
  ·go_wp2
   go_ret;exact⟨aF (iA s k hlt (fD (.inr (.inl h2)))).symm,rfl⟩
  by_cases h3:s[k].toNat=39
  ·go_wp2
   go_ret;exact⟨aF (iA s k hlt (fD (.inr (.inr h3)))).symm,rfl⟩
  have h3b:((s[k].toNat:Int)==39)=false:=beq_eq_false_iff_ne.2 (by omega)
  go_wp2
  exact⟨⟨k+1,by omega,by go_num,xJ s k hlt (xI h1 h2 h3) H.out⟩,by simp[intOf];omega⟩
 obtain rfl:k=s.size:=by omega
 go_wp2
 go_ret;exact⟨aF (by have:=H.out;rw[List.take_of_length_le (by simp)] at this;unfold qY;rw[this];simp;omega),rfl⟩
def eP (k n:Int) (l:List UInt8):Bool:=if k=0 then n==0&&l.isEmpty else if k=1 then l.isEmpty else if k=2 then n==0&&qY l else false
theorem jE (n:Int) (s:ByteArray) (k:Nat) (h:k<s.size) (hb:okB s[k]=false):eP 2 n s.data.toList=false:=by
 simp[eP,iA s k h hb]
theorem aCv (s:ByteArray) (h:¬ s.size<=12):decide ((s.size:Int)<=12)=eP 2 0 s.data.toList:=by
 have h':¬ (s.size:Int)<=12:=(by omega);rw[decide_eq_false h'];simp[eP,qY,h]
theorem aAg (s:ByteArray) (h:s.size<=12) (ha:(s.data.toList.take s.size).all okB=true):decide ((s.size:Int)<=12)=eP 2 0 s.data.toList:=by
 have h':(s.size:Int)<=12:=(by omega);rw[List.take_of_length_le (by simp)] at ha;unfold eP qY;rw[ha,decide_eq_true h'];simp[h]
theorem below_alloc1 (w:World) (o:Obj):Below w.heap.size w (w.alloc o):=(Below.refl _ _).alloc (Nat.le_refl _) o
theorem aBc (k n:Int) (s:ByteArray) (w:World) (hs:s.size<=maxLen) :
  Calls Tryz.prog 104 #[.agg #[.int .i64 k,.int .i64 n,.string s]] w fun e w'=>e=.returned (.bool (eP k n s.data.toList))/\Below w.heap.size w w':=by
 by_cases k0:k=0
 ·subst k0;by_cases n0:n=0
  ·subst n0;go_enter Tryz.func104,Tryz.ntmps104
   go_wp2
   go_ret;refine⟨aF ?_,below_alloc1 _ _⟩;simp[eP,ByteArray.toList_eq]
  have nb:((n:Int)==0)=false:=beq_eq_false_iff_ne.2 n0;go_enter Tryz.func104,Tryz.ntmps104
  go_wp2
  go_ret;refine⟨aF ?_,below_alloc1 _ _⟩;simp[eP,nb]
 by_cases k1:k=1
 ·subst k1;go_enter Tryz.func104,Tryz.ntmps104
  go_wp2
  go_ret;refine⟨aF ?_,below_alloc1 _ _⟩;simp[eP,ByteArray.toList_eq]
 by_cases k2:k=2
 ·subst k2;by_cases n0:n=0
  ·subst n0;go_enter Tryz.func104,Tryz.ntmps104;go_wp2_with (go_at_call 136;refine (xK _ _ hs).mono ?_;rintro e w' ⟨rfl,rfl⟩);go_ret;exact⟨rfl,below_alloc1 _ _⟩
  have nb:((n:Int)==0)=false:=beq_eq_false_iff_ne.2 n0;go_enter Tryz.func104,Tryz.ntmps104
  go_wp2
  go_ret;refine⟨aF ?_,below_alloc1 _ _⟩;simp[eP,nb]
 go_enter Tryz.func104,Tryz.ntmps104
 go_wp2
 go_ret;refine⟨aF ?_,below_alloc1 _ _⟩;simp[eP,k0,k1,k2]
theorem aAh (k n:Int) (s:ByteArray) (w:World) (hs:s.size<=maxLen) :
  Calls Tryz.prog 95 #[.agg #[.int .i64 k,.int .i64 n,.string s]] w fun e w'=>e=.returned (.bool (eP k n s.data.toList))/\Below w.heap.size w w':=by
 unfold maxLen at hs;by_cases k0:k=0
 ·subst k0;by_cases n0:n=0
  ·subst n0;go_enter Tryz.func95,Tryz.ntmps95
   go_wp2
   go_ret;refine⟨aF ?_,below_alloc1 _ _⟩;simp[eP,ByteArray.toList_eq]
  have nb:((n:Int)==0)=false:=beq_eq_false_iff_ne.2 n0;go_enter Tryz.func95,Tryz.ntmps95
  go_wp2
  go_ret;refine⟨aF ?_,below_alloc1 _ _⟩;simp[eP,nb]
 by_cases k1:k=1
 ·subst k1;go_enter Tryz.func95,Tryz.ntmps95
  go_wp2
  go_ret;refine⟨aF ?_,below_alloc1 _ _⟩;simp[eP,ByteArray.toList_eq]
 by_cases k2:k=2
 ·subst k2;go_enter Tryz.func95,Tryz.ntmps95
  go_wp2
  go_loop [3] (fun i=>∃ k:Nat,k<=s.size/\i=.int .i64 k/\(s.data.toList.take k).all okB=true) (fun i=>s.size-(intOf i).toNat)
  case atStart=>exact⟨0,Nat.zero_le _,rfl,by simp⟩
  obtain⟨k,hk,rfl,hall⟩:=hrel;have H:=qAq hall;clear hall;by_cases hlt:k<s.size
  ·by_cases h1:s[k].toNat<32
   ·go_wp2
    go_ret;exact⟨aF (jE n s k hlt (fD (.inl h1))).symm,below_alloc1 _ _⟩
   by_cases h2:126<s[k].toNat
   ·go_wp2
    go_ret;exact⟨aF (jE n s k hlt (fD (.inr (.inl h2)))).symm,below_alloc1 _ _⟩
   by_cases h3:s[k].toNat=39
   ·go_wp2
    go_ret;exact⟨aF (jE n s k hlt (fD (.inr (.inr h3)))).symm,below_alloc1 _ _⟩
   have h3b:((s[k].toNat:Int)==39)=false:=beq_eq_false_iff_ne.2 (by omega)
   go_wp2
   exact⟨⟨k+1,by omega,by go_num,xJ s k hlt (xI h1 h2 h3) H.out⟩,by simp[intOf];omega⟩
  obtain rfl:k=s.size:=(by omega);by_cases n0:n=0
  ·subst n0;by_cases h12:s.size<=12
   ·go_wp2
    go_ret;exact⟨aF (aAg s h12 H.out),below_alloc1 _ _⟩
   go_wp2
   go_ret;exact⟨aF (aCv s h12),below_alloc1 _ _⟩
  have nb:((n:Int)==0)=false:=beq_eq_false_iff_ne.2 n0
  go_wp2
  go_ret;exact⟨aF (by simp[eP,nb]),below_alloc1 _ _⟩
 go_enter Tryz.func95,Tryz.ntmps95
 go_wp2
 go_ret;refine⟨aF ?_,below_alloc1 _ _⟩;simp[eP,k0,k1,k2]
def iB (m:Nat) (s:ByteArray):ByteArray:=if m<s.size then s.extract 0 m else s
theorem aGY (m:Nat) (s:ByteArray):(iB m s).size<=m∨(iB m s).size<=s.size:=by
 unfold iB;split
 ·left;simp;omega
 right;omega
theorem uF (m:Nat) (s:ByteArray):(iB m s).size<=m:=by
 unfold iB;split
 ·simp;omega
 omega
theorem aBd (s:ByteArray) (m:Int) (w:World) (_hs:s.size<=maxLen) (h0:0<=m) (_h1:m<=1000) :
  Calls Tryz.prog 41 #[.string s,.int .i64 m] w fun e w'=>e=.returned (.string (iB m.toNat s))/\w=w':=by
 obtain⟨n,rfl⟩:=Int.eq_ofNat_of_zero_le h0;rw[Int.toNat_natCast];unfold iB;by_cases h:n<s.size
 ·rw[if_pos h];go_enter Tryz.func41,Tryz.ntmps41
  go_wp2
  go_ret;exact⟨rfl,rfl⟩
 rw[if_neg h];go_enter Tryz.func41,Tryz.ntmps41
 go_wp2
 go_ret;exact⟨rfl,rfl⟩
theorem aFV (k n:Int) (s:ByteArray) (w:World) (hs:s.size<=maxLen) :
  Calls Tryz.prog 70 #[.agg #[.int .i64 k,.int .i64 n,.string s]] w fun e w'=>e=.returned (.agg #[.int .i64 k,.int .i64 n,.string (iB 20 s)])/\Below w.heap.size w w':=by
 go_enter Tryz.func70,Tryz.ntmps70;go_wp2_with (go_at_call 41;refine (aBd _ _ _ hs (by omega) (by omega)).mono ?_;rintro e w' ⟨rfl,rfl⟩);exact bodyPost_ret (v:=.agg #[.int .i64 k,.int .i64 n,.string (iB 20 s)]) (by simp[results,Tryz.results70,go_sem]) rfl ⟨rfl,(below_alloc1 _ _).alloc (by simp) _⟩
def eqV (k1 n1:Int) (s1:ByteArray) (k2 n2:Int) (s2:ByteArray):Bool:=decide (k1=k2/\n1=n2/\s1=s2)
theorem fE {a b:ByteArray} (h:a.data.toList=b.data.toList):a=b:=by
 obtain⟨⟨x⟩⟩:=a;obtain⟨⟨y⟩⟩:=b;simp at h;simp[h]
theorem mS (k1 n1:Int) (s1:ByteArray) (k2 n2:Int) (s2:ByteArray) (w:World) :
  Calls Tryz.prog 83 #[.agg #[.int .i64 (k1),.int .i64 (n1),.string (s1)],.agg #[.int .i64 (k2),.int .i64 (n2),.string (s2)]] w fun e w'=>e=.returned (.bool (eqV k1 n1 s1 k2 n2 s2))/\Below w.heap.size w w':=by
 by_cases hk:k1=k2
 ·subst hk;by_cases hn:n1=n2
  ·subst hn;go_enter Tryz.func83,Tryz.ntmps83
   go_wp2
   go_ret;refine⟨aF ?_,(below_alloc1 _ _).alloc (by simp) _⟩;unfold eqV;rw[Bool.eq_iff_iff,beq_iff_eq,decide_eq_true_eq,ByteArray.toList_eq,ByteArray.toList_eq];exact⟨fun h=>⟨rfl,rfl,fE h⟩,fun h=>by rw[h.2.2]⟩
  have hnb:(n1==n2)=false:=beq_eq_false_iff_ne.2 hn;go_enter Tryz.func83,Tryz.ntmps83
  go_wp2
  go_ret;refine⟨aF ?_,(below_alloc1 _ _).alloc (by simp) _⟩;unfold eqV;rw[eq_comm,decide_eq_false_iff_not];exact fun h=>hn h.2.1
 have hkb:(k1==k2)=false:=beq_eq_false_iff_ne.2 hk;go_enter Tryz.func83,Tryz.ntmps83
 go_wp2
 go_ret;refine⟨aF ?_,(below_alloc1 _ _).alloc (by simp) _⟩;unfold eqV;rw[eq_comm,decide_eq_false_iff_not];exact fun h=>hk h.1
