import Derived.Test.YteampbddflhngaaGreatZ06
namespace Go.Proofs.YteampbddflhngaaGreat
set_option linter.all false
set_option maxRecDepth 100000
set_option maxHeartbeats 2000000
section
open Go.Proofs.Tryz Go.RowKit
def Sd(c:Int)(s:ByteArray):Bool:=s.data.toList.any fun b=>(b.toNat:Int) == c
theorem nP(c:Int)(s:ByteArray)(w:World)(hs:s.size<=1000):
  Calls prog 105 #[.int .u8 c,.string s] w fun e m=>e=ε (.bool (Sd c s))/\m=w:=by
 go_enter func105,ntmps105;go_wp2;go_loop [5] (fun i=>∃k:Nat,k<=s.size/\i=ι k/\Hid (Sd c s=(s.data.toList.drop k).any fun b=>(b.toNat:Int) == c)) (fun i=>s.size-(intOf i).toNat)
 case atStart=>exact⟨0,zv _,rfl,rfl⟩
 case round=>
  obtain⟨k,n,rfl,H⟩:=hrel;by_cases h:k<s.size
  ·have g:k<s.data.toList.length:=by rw[nN];exact h
   have a:=ip s.data.toList (fun b=>(b.toNat:Int) == c) k g;have f:s.data.toList[k]=s[k]:=rfl;rw[f] at a;have j:Hid (Sd c s=(((s[k].toNat:Int) == c)||(s.data.toList.drop (k+1)).any fun b=>(b.toNat:Int) == c)):=by rw[Hid,H.out,a]
   cases l:((s[k].toNat:Int) == c) with
   |true=>
    have d:Hid (Sd c s=true):=by rw[Hid,j.out,l];rfl
    go_wp2;go_ret;exact⟨by rw[d.out];rfl,rfl⟩
   |false=>
    have d:Hid (Sd c s=(s.data.toList.drop (k+1)).any fun b=>(b.toNat:Int) == c):=by rw[Hid,j.out,l];rfl
    go_wp2;go_round
    ·exact⟨k+1,by omega,by go_num,d⟩
    ·simp[intOf];omega
  ·have d:Hid (Sd c s=false):=by rw[Hid,H.out,uj (by rw[nN];show s.size<=k;omega)];rfl
   go_wp2;go_ret;exact⟨by rw[d.out];rfl,rfl⟩
theorem nX(p:Int->Bool)(s:ByteArray)(h:(List.range 256).all (fun n=>Sd (n:Int) s == p (n:Int))=true)(c:Int)(a:0<=c)(b:c<256):Sd c s=p c:=by
 obtain⟨n,rfl⟩:=Int.eq_ofNat_of_zero_le a;have:=kh.1 h n (by simp;omega);simpa using this
def Sl(c:Int):Bool:=c == 40||c == 41||c == 44||c == 46||c == 33
def m6(c:Int):Bool:=yN c||vR c
theorem Kg(c:Int)(a:0<=c)(b:c<256):Sd c {data:=#[32,10]}=qu c:=nX qu _ (by decide +kernel) c a b
theorem GN(c:Int)(a:0<=c)(b:c<256):Sd c {data:=#[48,49,50,51,52,53,54,55,56,57]}=yH c:=nX yH _ (by decide +kernel) c a b
theorem GP(c:Int)(a:0<=c)(b:c<256):Sd c {data:=#[97,98,99,100,101,102,103,104,105,106,107,108,109,110,111,112,113,114,115,116,117,118,119,120,121,122]}=yN c:=nX yN _ (by decide +kernel) c a b
theorem JO(c:Int)(a:0<=c)(b:c<256):Sd c {data:=#[65,66,67,68,69,70,71,72,73,74,75,76,77,78,79,80,81,82,83,84,85,86,87,88,89,90]}=vR c:=nX vR _ (by decide +kernel) c a b
theorem OB(c:Int)(a:0<=c)(b:c<256):Sd c {data:=#[97,98,99,100,101,102,103,104,105,106,107,108,109,110,111,112,113,114,115,116,117,118,119,120,121,122,65,66,67,68,69,70,71,72,73,74,75,76,77,78,79,80,81,82,83,84,85,86,87,88,89,90]}=m6 c:=nX m6 _ (by decide +kernel) c a b
theorem P9(c:Int)(a:0<=c)(b:c<256):Sd c {data:=#[97,98,99,100,101,102,103,104,105,106,107,108,109,110,111,112,113,114,115,116,117,118,119,120,121,122,65,66,67,68,69,70,71,72,73,74,75,76,77,78,79,80,81,82,83,84,85,86,87,88,89,90,48,49,50,51,52,53,54,55,56,57]}=Rf c:=nX Rf _ (by decide +kernel) c a b
theorem IX(c:Int)(a:0<=c)(b:c<256):Sd c {data:=#[40,41,44,46,33]}=Sl c:=nX Sl _ (by decide +kernel) c a b
theorem pz(c:Int)(w:World)(b:0<=c)(d:c<256):Calls prog 105 #[.int .u8 c,.string {data:=#[32,10]}] w fun e a=>e=ε (.bool (qu c))/\a=w:=by
 have:=nP c {data:=#[32,10]} w (by decide);rw[Kg c b d] at this;exact this
theorem lH(c:Int)(w:World)(b:0<=c)(d:c<256):Calls prog 105 #[.int .u8 c,.string {data:=#[48,49,50,51,52,53,54,55,56,57]}] w fun e a=>e=ε (.bool (yH c))/\a=w:=by
 have:=nP c {data:=#[48,49,50,51,52,53,54,55,56,57]} w (by decide);rw[GN c b d] at this;exact this
theorem K4(c:Int)(w:World)(b:0<=c)(d:c<256):Calls prog 105 #[.int .u8 c,.string {data:=#[97,98,99,100,101,102,103,104,105,106,107,108,109,110,111,112,113,114,115,116,117,118,119,120,121,122]}] w fun e a=>e=ε (.bool (yN c))/\a=w:=by
 have:=nP c {data:=#[97,98,99,100,101,102,103,104,105,106,107,108,109,110,111,112,113,114,115,116,117,118,119,120,121,122]} w (by decide);rw[GP c b d] at this;exact this
theorem Hz(c:Int)(w:World)(b:0<=c)(d:c<256):Calls prog 105 #[.int .u8 c,.string {data:=#[65,66,67,68,69,70,71,72,73,74,75,76,77,78,79,80,81,82,83,84,85,86,87,88,89,90]}] w fun e a=>e=ε (.bool (vR c))/\a=w:=by
 have:=nP c {data:=#[65,66,67,68,69,70,71,72,73,74,75,76,77,78,79,80,81,82,83,84,85,86,87,88,89,90]} w (by decide);rw[JO c b d] at this;exact this
theorem lA(c:Int)(w:World)(b:0<=c)(d:c<256):Calls prog 105 #[.int .u8 c,.string {data:=#[97,98,99,100,101,102,103,104,105,106,107,108,109,110,111,112,113,114,115,116,117,118,119,120,121,122,65,66,67,68,69,70,71,72,73,74,75,76,77,78,79,80,81,82,83,84,85,86,87,88,89,90]}] w fun e a=>e=ε (.bool (m6 c))/\a=w:=by
 have:=nP c {data:=#[97,98,99,100,101,102,103,104,105,106,107,108,109,110,111,112,113,114,115,116,117,118,119,120,121,122,65,66,67,68,69,70,71,72,73,74,75,76,77,78,79,80,81,82,83,84,85,86,87,88,89,90]} w (by decide);rw[OB c b d] at this;exact this
theorem fT(c:Int)(w:World)(b:0<=c)(d:c<256):Calls prog 105 #[.int .u8 c,.string {data:=#[97,98,99,100,101,102,103,104,105,106,107,108,109,110,111,112,113,114,115,116,117,118,119,120,121,122,65,66,67,68,69,70,71,72,73,74,75,76,77,78,79,80,81,82,83,84,85,86,87,88,89,90,48,49,50,51,52,53,54,55,56,57]}] w fun e a=>e=ε (.bool (Rf c))/\a=w:=by
 have:=nP c {data:=#[97,98,99,100,101,102,103,104,105,106,107,108,109,110,111,112,113,114,115,116,117,118,119,120,121,122,65,66,67,68,69,70,71,72,73,74,75,76,77,78,79,80,81,82,83,84,85,86,87,88,89,90,48,49,50,51,52,53,54,55,56,57]} w (by decide);rw[P9 c b d] at this;exact this
theorem kp(c:Int)(w:World)(b:0<=c)(d:c<256):Calls prog 105 #[.int .u8 c,.string {data:=#[40,41,44,46,33]}] w fun e a=>e=ε (.bool (Sl c))/\a=w:=by
 have:=nP c {data:=#[40,41,44,46,33]} w (by decide);rw[IX c b d] at this;exact this
theorem kA(s:ByteArray)(w:World)(h:0<s.size):
  Calls prog 184 #[.string s] w fun e a=>e=ε (.bool (yN (QG s 0)))/\a=w:=by
 have b:=fg s 0;rw[qn h] at b ⊢;go_enter func184,ntmps184;go_wp2_with (go_at_call 105;refine(K4 _ _ (by omega) (by omega)).mono ?_;rintro e a ⟨rfl,rfl⟩)
 go_ret;exact⟨rfl,rfl⟩
theorem wh(s:ByteArray)(w:World)(h:0<s.size):
  Calls prog 154 #[.string s] w fun e a=>e=ε (.bool (vR (QG s 0)))/\a=w:=by
 have b:=fg s 0;rw[qn h] at b ⊢;go_enter func154,ntmps154;go_wp2_with (go_at_call 105;refine(Hz _ _ (by omega) (by omega)).mono ?_;rintro e a ⟨rfl,rfl⟩)
 go_ret;exact⟨rfl,rfl⟩
theorem mE(s:ByteArray)(w:World)(h:0<s.size):
  Calls prog 185 #[.string s] w fun e a=>e=ε (.bool (Rf (QG s 0)))/\a=w:=by
 have b:=fg s 0;rw[qn h] at b ⊢;go_enter func185,ntmps185;go_wp2_with (go_at_call 105;refine(fT _ _ (by omega) (by omega)).mono ?_;rintro e a ⟨rfl,rfl⟩)
 go_ret;exact⟨rfl,rfl⟩
theorem Cg(s:ByteArray)(h:1<s.size):((s.extract 0 2).toList == [58,45])=(decide (QG s 0=58)&&decide (QG s 1=45)):=by
 rw[lM,qn (by omega:0<s.size),qn h];have d:(s.extract 0 2).data.toList=[s[0],s[1]]:=by
  rw[ByteArray.data_extract,Array.toList_extract];obtain⟨⟨l⟩⟩:=s;match l,h with
  |a::b::r,_=>rfl
 rw[d];have e:∀(x:UInt8) (n:UInt8),(x == n)=decide ((x.toNat:Int)=(n.toNat:Int)):=fun x n=>by
  by_cases c:x=n
  ·subst c;simp
  ·rw[beq_eq_false_iff_ne.2 c];symm;rw[decide_eq_false_iff_not];intro f;exact c (UInt8.toNat_inj.1 (by omega))
 simp only[List.cons_beq_cons,e,List.nil_beq_eq,List.isEmpty_nil,Bool.and_true];rfl
def xd(s:ByteArray):Nat:=yi s 0 (xb (QG s 0) (QG s 1))
theorem Mt(s:ByteArray)(w:World)(_:s.size<=500)(d:1<s.size)(b:QG s 0=58)(c:QG s 1=45):
  Calls prog 106 #[.string s] w fun e h=>e=ε (ι (xd s))/\h=w:=by
 have f:Hid (xd s=2):=by unfold Hid xd;rw[b,c];rfl
 have a:=Cg s d;rw[b,c] at a;have g:((s.extract 0 2).toList == [58,45])=true:=a;clear a b c;go_enter func106,ntmps106;go_wp2_with fail
 go_ret;exact⟨by rw[f.out];rfl,rfl⟩
def rR(s:ByteArray):Prop:=¬1<s.size∨(1<s.size/\((s.extract 0 2).toList == [58,45])=false)
theorem MO(s:ByteArray)(h:¬(QG s 0=58/\QG s 1=45)):rR s:=by
 by_cases a:1<s.size
 ·right;refine⟨a,?_⟩;rw[Cg s a];simp only[wt,decide_eq_false_iff_not];omega
 ·left;exact a
theorem Oo(s:ByteArray)(w:World)(hs:s.size<=500)(f:0<s.size)(c:rR s)(h:Sl (QG s 0)=true):
  Calls prog 106 #[.string s] w fun e d=>e=ε (ι (1))/\d=w:=by
 have b:=fg s 0;have a:=qn f;rw[a] at b h;clear a;rcases c with c|⟨g,c⟩
 all_goals
  go_enter func106,ntmps106;go_wp2_with (go_at_call 105;refine(kp _ _ (by omega) (by omega)).mono ?_;rintro e d ⟨rfl,rfl⟩)
  go_ret;exact⟨rfl,rfl⟩
theorem IK(s:ByteArray)(w:World)(hs:s.size<=500)(n:0<s.size)(j:rR s)(h:Sl (QG s 0)=false)(m:yH (QG s 0)=true):
  Calls prog 106 #[.string s] w fun e a=>e=ε (ι (yA yH s 0))/\a=w:=by
 have i:=fg s 0;have l:=qn n;rw[l] at i h m;rcases j with j|⟨o,j⟩
 all_goals
  go_enter func106,ntmps106;go_wp2_with (first|(go_at_call 105;with_reducible refine(kp _ _ (by omega) (by omega)).mono ?_;rintro e a ⟨rfl,rfl⟩)|(go_at_call 105;with_reducible refine(lH _ _ (by omega) (by omega)).mono ?_;rintro e a ⟨rfl,rfl⟩)|(go_at_call 105;with_reducible refine(lA _ _ (by omega) (by omega)).mono ?_;rintro e a ⟨rfl,rfl⟩)|(go_at_call 105;with_reducible refine(fT _ _ (by omega) (by omega)).mono ?_;rintro e a ⟨rfl,rfl⟩))
  go_loop [3] (fun t=>∃k:Nat,k<=s.size/\t=ι k/\Hid (yA yH s 0=yA yH s k)) (fun t=>s.size-(intOf t).toNat)
  case atStart=>exact⟨0,zv _,rfl,rfl⟩
  case round=>
   obtain⟨k,p,rfl,H⟩:=hrel;by_cases c:k<s.size
   ·have f:=qn c;have g:=fg s k;cases b:yH (QG s k) with
    |true=>
     have d:Hid (yA yH s 0=yA yH s (k+1)):=by rw[Hid.out H,lJ c b];rfl
     rw[f] at b g;go_wp2_with (first|(go_at_call 105;with_reducible refine(kp _ _ (by omega) (by omega)).mono ?_;rintro e a ⟨rfl,rfl⟩)|(go_at_call 105;with_reducible refine(lH _ _ (by omega) (by omega)).mono ?_;rintro e a ⟨rfl,rfl⟩)|(go_at_call 105;with_reducible refine(lA _ _ (by omega) (by omega)).mono ?_;rintro e a ⟨rfl,rfl⟩)|(go_at_call 105;with_reducible refine(fT _ _ (by omega) (by omega)).mono ?_;rintro e a ⟨rfl,rfl⟩))
     go_round
     ·exact⟨k+1,by omega,by go_num,d⟩
     ·simp[intOf];omega
    |false=>
     have d:Hid (yA yH s 0=k):=by rw[Hid.out H,mS b];rfl
     rw[f] at b g;go_wp2_with (first|(go_at_call 105;with_reducible refine(kp _ _ (by omega) (by omega)).mono ?_;rintro e a ⟨rfl,rfl⟩)|(go_at_call 105;with_reducible refine(lH _ _ (by omega) (by omega)).mono ?_;rintro e a ⟨rfl,rfl⟩)|(go_at_call 105;with_reducible refine(lA _ _ (by omega) (by omega)).mono ?_;rintro e a ⟨rfl,rfl⟩)|(go_at_call 105;with_reducible refine(fT _ _ (by omega) (by omega)).mono ?_;rintro e a ⟨rfl,rfl⟩))
     go_ret;exact⟨by rw[Hid.out d];rfl,rfl⟩
   ·have d:Hid (yA yH s 0=k):=by rw[Hid.out H,gS c];rfl
    go_wp2_with (first|(go_at_call 105;with_reducible refine(kp _ _ (by omega) (by omega)).mono ?_;rintro e a ⟨rfl,rfl⟩)|(go_at_call 105;with_reducible refine(lH _ _ (by omega) (by omega)).mono ?_;rintro e a ⟨rfl,rfl⟩)|(go_at_call 105;with_reducible refine(lA _ _ (by omega) (by omega)).mono ?_;rintro e a ⟨rfl,rfl⟩)|(go_at_call 105;with_reducible refine(fT _ _ (by omega) (by omega)).mono ?_;rintro e a ⟨rfl,rfl⟩))
    go_ret;exact⟨by rw[Hid.out d];rfl,rfl⟩
theorem MV(s:ByteArray)(w:World)(hs:s.size<=500)(o:0<s.size)(j:rR s)(h:Sl (QG s 0)=false)(n:yH (QG s 0)=false)(m:m6 (QG s 0)=true):
  Calls prog 106 #[.string s] w fun e a=>e=ε (ι (yA Rf s 0))/\a=w:=by
 have i:=fg s 0;have l:=qn o;rw[l] at i h n m;rcases j with j|⟨p,j⟩
 all_goals
  go_enter func106,ntmps106;go_wp2_with (first|(go_at_call 105;with_reducible refine(kp _ _ (by omega) (by omega)).mono ?_;rintro e a ⟨rfl,rfl⟩)|(go_at_call 105;with_reducible refine(lH _ _ (by omega) (by omega)).mono ?_;rintro e a ⟨rfl,rfl⟩)|(go_at_call 105;with_reducible refine(lA _ _ (by omega) (by omega)).mono ?_;rintro e a ⟨rfl,rfl⟩)|(go_at_call 105;with_reducible refine(fT _ _ (by omega) (by omega)).mono ?_;rintro e a ⟨rfl,rfl⟩))
  go_loop [3] (fun t=>∃k:Nat,k<=s.size/\t=ι k/\Hid (yA Rf s 0=yA Rf s k)) (fun t=>s.size-(intOf t).toNat)
  case atStart=>exact⟨0,zv _,rfl,rfl⟩
  case round=>
   obtain⟨k,q,rfl,H⟩:=hrel;by_cases c:k<s.size
   ·have f:=qn c;have g:=fg s k;cases b:Rf (QG s k) with
    |true=>
     have d:Hid (yA Rf s 0=yA Rf s (k+1)):=by rw[Hid.out H,lJ c b];rfl
     rw[f] at b g;go_wp2_with (first|(go_at_call 105;with_reducible refine(kp _ _ (by omega) (by omega)).mono ?_;rintro e a ⟨rfl,rfl⟩)|(go_at_call 105;with_reducible refine(lH _ _ (by omega) (by omega)).mono ?_;rintro e a ⟨rfl,rfl⟩)|(go_at_call 105;with_reducible refine(lA _ _ (by omega) (by omega)).mono ?_;rintro e a ⟨rfl,rfl⟩)|(go_at_call 105;with_reducible refine(fT _ _ (by omega) (by omega)).mono ?_;rintro e a ⟨rfl,rfl⟩))
     go_round
     ·exact⟨k+1,by omega,by go_num,d⟩
     ·simp[intOf];omega
    |false=>
     have d:Hid (yA Rf s 0=k):=by rw[Hid.out H,mS b];rfl
     rw[f] at b g;go_wp2_with (first|(go_at_call 105;with_reducible refine(kp _ _ (by omega) (by omega)).mono ?_;rintro e a ⟨rfl,rfl⟩)|(go_at_call 105;with_reducible refine(lH _ _ (by omega) (by omega)).mono ?_;rintro e a ⟨rfl,rfl⟩)|(go_at_call 105;with_reducible refine(lA _ _ (by omega) (by omega)).mono ?_;rintro e a ⟨rfl,rfl⟩)|(go_at_call 105;with_reducible refine(fT _ _ (by omega) (by omega)).mono ?_;rintro e a ⟨rfl,rfl⟩))
     go_ret;exact⟨by rw[Hid.out d];rfl,rfl⟩
   ·have d:Hid (yA Rf s 0=k):=by rw[Hid.out H,gS c];rfl
    go_wp2_with (first|(go_at_call 105;with_reducible refine(kp _ _ (by omega) (by omega)).mono ?_;rintro e a ⟨rfl,rfl⟩)|(go_at_call 105;with_reducible refine(lH _ _ (by omega) (by omega)).mono ?_;rintro e a ⟨rfl,rfl⟩)|(go_at_call 105;with_reducible refine(lA _ _ (by omega) (by omega)).mono ?_;rintro e a ⟨rfl,rfl⟩)|(go_at_call 105;with_reducible refine(fT _ _ (by omega) (by omega)).mono ?_;rintro e a ⟨rfl,rfl⟩))
    go_ret;exact⟨by rw[Hid.out d];rfl,rfl⟩
theorem Gy(s:ByteArray)(w:World)(hs:s.size<=500)(i:0<s.size)(c:rR s)(h:Sl (QG s 0)=false)(g:yH (QG s 0)=false)(f:m6 (QG s 0)=false):
  Calls prog 106 #[.string s] w fun e a=>e=ε (ι (0))/\a=w:=by
 have b:=fg s 0;have d:=qn i;rw[d] at b h g f;rcases c with c|⟨j,c⟩
 all_goals
  go_enter func106,ntmps106;go_wp2_with (first|(go_at_call 105;with_reducible refine(kp _ _ (by omega) (by omega)).mono ?_;rintro e a ⟨rfl,rfl⟩)|(go_at_call 105;with_reducible refine(lH _ _ (by omega) (by omega)).mono ?_;rintro e a ⟨rfl,rfl⟩)|(go_at_call 105;with_reducible refine(lA _ _ (by omega) (by omega)).mono ?_;rintro e a ⟨rfl,rfl⟩)|(go_at_call 105;with_reducible refine(fT _ _ (by omega) (by omega)).mono ?_;rintro e a ⟨rfl,rfl⟩))
  go_ret;exact⟨rfl,rfl⟩
theorem Sj(s:ByteArray)(w:World)(hs:s.size<=500)(f:0<s.size):
  Calls prog 106 #[.string s] w fun e k=>e=ε (ι (xd s))/\k=w:=by
 by_cases a:QG s 0=58/\QG s 1=45
 ·refine Mt s w hs ?_ a.1 a.2;false_or_by_contra;rename_i d;rw[n6 d] at a;omega
 ·have d:=MO s a;cases h:Sl (QG s 0) with
  |true=>
   have:=Oo s w hs f d h;have e:xd s=1:=by
    unfold xd xb;simp only[Sl,dX,beq_iff_eq] at h;rcases h with (((h|h)|h)|h)|h<;>rw[h]<;>rfl
   rw[e];exact this
  |false=>
   have i:dC (QG s 0)=0:=by
    simp only[Sl,nK,beq_eq_false_iff_ne] at h;unfold dC;simp[h]
   cases c:yH (QG s 0) with
   |true=>
    have:=IK s w hs f d h c;have e:xd s=yA yH s 0:=by
     have g:yN (QG s 0)=false:=by simp[yH,yN] at c ⊢;omega
     have j:vR (QG s 0)=false:=by simp[yH,vR] at c ⊢;omega
     unfold xd xb;simp[g,j,c,yi]
    rw[e];exact this
   |false=>
    cases b:m6 (QG s 0) with
    |true=>
     have:=MV s w hs f d h c b;have e:xd s=yA Rf s 0:=by
      unfold xd xb;simp only[m6,dX] at b;cases g:yN (QG s 0) with
      |true=>simp[yi]
      |false=>rw[g] at b;simp at b;simp[b,yi]
     rw[e];exact this
    |false=>
     have:=Gy s w hs f d h c b;have e:xd s=0:=by
      simp only[m6,nK] at b;unfold xd xb;simp[b.1,b.2,c,a,i,yi]
     rw[e];exact this
end
section
open Go.Proofs.Tryz Go.RowKit
variable {n:Nat}{s:ByteArray}{o:Option (κ)}
def xh:Nat->ByteArray->Option (κ)
 |0,_=>some []
 |n+1,s=>if s.size=0 then some [] else if qu (QG s 0) then xh n (s.extract 1 s.size) else if xd s=0 then none else if 6<xd s then none
  else(xh n (s.extract (xd s) s.size)).map (s.extract 0 (xd s)::·)
theorem eE(h:s.size=0):xh n s=some []:=by cases n<;>simp[xh,h]
theorem E4(h:0<s.size)(a:qu (QG s 0)=true):xh (n+1) s=xh n (s.extract 1 s.size):=by simp[xh,Nat.ne_of_gt h,a]
theorem ot(h:0<s.size)(b:qu (QG s 0)=false)(a:xd s=0∨6<xd s):xh (n+1) s=none:=by
 simp only[xh,za (Nat.ne_of_gt h),b];rcases a with a|a
 ·simp[a]
 ·simp[a]
theorem DK(h:0<s.size)(a:qu (QG s 0)=false)(b:xd s≠0)(c:¬6<xd s):xh (n+1) s=(xh n (s.extract (xd s) s.size)).map (s.extract 0 (xd s)::·):=by
 simp[xh,Nat.ne_of_gt h,a,b,c]
theorem OD(h:6<xd s):QG s 0≠58/\Sl (QG s 0)=false:=by
 unfold xd xb at h;refine⟨fun c=>?_,?_⟩
 ·rw[c] at h;by_cases b:QG s 1=45
  ·rw[b] at h;simp[yN,vR,yH,yi] at h
  ·simp[yN,vR,yH,yi,b,dC] at h
 ·false_or_by_contra
  rename_i a;simp only[rj,Sl,dX,beq_iff_eq] at a;rcases a with (((a|a)|a)|a)|a<;>(rw[a] at h;simp[yN,vR,yH,yi,dC] at h)
theorem Lt(s:ByteArray)(a:0<s.size):xd s<=s.size:=by
 unfold xd;by_cases h:xb (QG s 0) (QG s 1)=0
 ·rw[h];simp[yi]
 ·exact(ri s 0 _ a rfl h).2
def Aa(o:Option (κ))(w:World)(e:Ending)(w':World):Prop:=
 μ w w'/\match o with
  |none=>e=ε (.tuple #[ν,.bool false])
  |some l=>∃v,e=ε (.tuple #[v,.bool true])/\w'.ownsRow w.heap.size 9 1 v l.length (l.map Value.string)
theorem eW{w w':World}(h:Hid (o=none))(a:μ w w'):Aa o w (ε (.tuple #[ν,.bool false])) w':=by
 have b:o=none:=h;subst b;exact⟨a,rfl⟩
theorem Ki{w w':World}{l:κ}{v:Value}(h:Hid (o=some l))(a:μ w w')(c:w'.ownsRow w.heap.size 9 1 v l.length (l.map Value.string)):Aa o w (ε (.tuple #[v,.bool true])) w':=by
 have b:o=some l:=h;subst b;exact⟨a,v,rfl,c⟩
theorem sE(s:ByteArray)(w:World)(hs:s.size<=500):
  Calls prog 65 #[.string s] w fun e d=>Aa (xh s.size s) w e d:=by
 obtain⟨P,S,G,D,z⟩:=info_parts Q0;go_enter func65,ntmps65;go_wp2;go_loopg [0,4] (s.size) (fun n u v wr=>∃(a:ByteArray) (b:κ) (m:Nat),u=.string a/\a.size<=n/\a.size<=m/\b.length+a.size<=s.size/\Hid (xh s.size s=(xh m a).map (b++·)) ∧
   wr.ownsRow w.heap.size 9 1 v b.length (b.map Value.string)/\μ w wr)
 case atStart=>exact⟨s,[],s.size,rfl,zg _,zg _,by simp,(by simp[Hid]),yD _ _ _ _,zo _ _⟩
 case round=>
  obtain⟨a,b,m,rfl,U,X,N,H,j,g⟩:=hrel;by_cases t:0<a.size
  ·have p:=fg a 0;have f:=qn t;have A:(a.toList == [])=false:=by
    rw[lM,beq_eq_false_iff_ne];intro h;have:a.data.toList.length=a.size:=nN;rw[h] at this;simp at this;omega
   obtain⟨m,rfl⟩:∃R,m=R+1:=⟨m-1,by omega⟩;cases r:qu (QG a 0) with
   |true=>
    have l:Hid (xh s.size s=(xh m (a.extract 1 a.size)).map (b++·)):=by rw[Hid,H.out,E4 t r]
    have y:(a.extract 1 a.size).size=a.size-1:=by rw[ByteArray.size_extract];omega
    rw[f] at r p;clear H f;go_wp2_with (go_at_call 105;with_reducible refine(pz _ _ (by omega) (by omega)).mono ?_;rintro e d ⟨rfl,rfl⟩)
    go_roundg (a.size-1)
    case measure=>omega
    case rel=>exact⟨_,b,m,rfl,by omega,by omega,by omega,l,j,g⟩
   |false=>
    have i:=Q7 fun W=>Sj a W (by omega) t;have M:=Lt a t;by_cases k:xd a=0∨6<xd a
    ·have l:Hid (xh s.size s=none):=by rw[Hid,H.out,ot t r k];rfl
     rcases k with k|k
     ·rw[k] at i;rw[f] at r p;clear H f k M;by_cases c:((a[0].toNat:Int) == 58)=true
      ·go_wp2_with (first|(go_at_call 105;with_reducible refine(pz _ _ (by omega) (by omega)).mono ?_;rintro e d ⟨rfl,rfl⟩)|(go_at_call 105;with_reducible refine(kp _ _ (by omega) (by omega)).mono ?_;rintro e d ⟨rfl,rfl⟩)|(go_at_call 106;refine(i.out _).mono ?_;rintro e d ⟨rfl,rfl⟩))
       go_ret2
       exact eW l g
      ·have q:((a[0].toNat:Int) == 58)=false:=by simpa using c
       clear c;go_wp2_with (first|(go_at_call 105;with_reducible refine(pz _ _ (by omega) (by omega)).mono ?_;rintro e d ⟨rfl,rfl⟩)|(go_at_call 105;with_reducible refine(kp _ _ (by omega) (by omega)).mono ?_;rintro e d ⟨rfl,rfl⟩)|(go_at_call 106;refine(i.out _).mono ?_;rintro e d ⟨rfl,rfl⟩))
       go_ret2
       exact eW l g
     ·obtain⟨c,I⟩:=OD k;rw[f] at r p c I;have q:((a[0].toNat:Int) == 58)=false:=by simpa using c
      clear H f c;generalize xd a=x at *;have J:((x:Int) == 0)=false:=by rw[beq_eq_false_iff_ne];omega
      go_wp2_with (first|(go_at_call 105;with_reducible refine(pz _ _ (by omega) (by omega)).mono ?_;rintro e d ⟨rfl,rfl⟩)|(go_at_call 105;with_reducible refine(kp _ _ (by omega) (by omega)).mono ?_;rintro e d ⟨rfl,rfl⟩)|(go_at_call 106;refine(i.out _).mono ?_;rintro e d ⟨rfl,rfl⟩))
      go_ret2
      exact eW l g
    ·have L:xd a≠0:=fun h=>k (zf h);have B:¬6<xd a:=fun h=>k (zb h);have l:Hid (xh s.size s=(xh m (a.extract (xd a) a.size)).map ((b++[a.extract 0 (xd a)])++·)):=by rw[Hid,H.out,DK t r L B,rN]
     rw[f] at r p;clear H f k;generalize xd a=x at *;have J:((x:Int) == 0)=false:=by rw[beq_eq_false_iff_ne];omega
     have y:(a.extract x a.size).size=a.size-x:=by rw[ByteArray.size_extract];omega
     by_cases c:((a[0].toNat:Int) == 58)=true;rotate_left
     have q:((a[0].toNat:Int) == 58)=false:=by simpa using c
     clear c
     all_goals
      go_wp2_with (first|(go_at_call 105;with_reducible refine(pz _ _ (by omega) (by omega)).mono ?_;rintro e d ⟨rfl,rfl⟩)|(go_at_call 105;with_reducible refine(kp _ _ (by omega) (by omega)).mono ?_;rintro e d ⟨rfl,rfl⟩)|(go_at_call 106;refine(i.out _).mono ?_;rintro e d ⟨rfl,rfl⟩)|(at_builtin;refine ki _ _ _ _ rfl (.tmp 34) (.tmp 38) 30 rfl w.heap.size 9 P _ 1 16 underlying30 S G D z rfl (by decide) _ _ _ rfl j (zo _ _) _ _ rfl (by simp) rfl (by simp[Value.oneCell']) (by omega) (by omega) g.size ?_;intro V T C E K F Q O;clear K F))
      go_roundg (a.size-1)
      case measure=>omega
      case rel=>exact⟨_,b++[a.extract 0 x],m,rfl,by omega,by omega,by simp;omega,l,by simpa using C,g.trans E⟩
  ·have y:a.size=0:=by omega
   have l:Hid (xh s.size s=some b):=by rw[Hid,H.out,eE y];simp
   have A:(a.toList == [])=true:=by
    rw[lM,beq_iff_eq];exact rg (by rw[nN];exact y)
   clear H;go_wp2_with (first|(go_at_call 105;with_reducible refine(pz _ _ (by omega) (by omega)).mono ?_;rintro e d ⟨rfl,rfl⟩)|(go_at_call 105;with_reducible refine(kp _ _ (by omega) (by omega)).mono ?_;rintro e d ⟨rfl,rfl⟩)|(go_at_call 106;refine(i.out _).mono ?_;rintro e d ⟨rfl,rfl⟩))
   go_ret2
   exact Ki l g j
end
section
open Go.Proofs.Tryz Go.RowKit
variable {w:World}{v:Value}{l:κ}
def SV(w:World)(v:Value)(l:κ):Prop:=∃c a,v=.slice c l.length a/\l.length<=a ∧
 ((c=none/\a=0)∨∃b o,c=some ⟨b,o,none⟩/\b<w.heap.size/\∀k (d:k<l.length),w.cell? ⟨b,o+k,none⟩=some (.string l[k]))
theorem SV.of{b:Nat}(h:w.ownsRow b 9 1 v l.length (l.map Value.string)):SV w v l:=by
 have m:=h;obtain⟨_,⟨c,n⟩|⟨g,d,i,c,_,j,p,_⟩⟩:=h
 ·refine⟨none,0,?_,by omega,zf ⟨rfl,rfl⟩⟩;rw[c,n]
 ·refine⟨_,d,c,p,zb ⟨g,0,rfl,(kz.1 j).1,fun k o=>?_⟩⟩;obtain⟨q,f,a,_,_,e⟩:=yx m (by omega);rw[c] at a;simp at a;obtain⟨rfl,_⟩:=a;rw[vB];exact e k _ (by simp[o])
theorem SV.qx(h:SV w v l):∃b a,v=.slice b l.length a:=by obtain⟨b,a,c,_⟩:=h;exact⟨b,a,c⟩
theorem SV.below{w':World}(h:SV w v l)(f:μ w w'):SV w' v l:=by
 obtain⟨n,c,g,i,e⟩:=h;refine⟨n,c,g,i,?_⟩;rcases e with e|⟨b,o,j,a,d⟩
 ·exact zf e
 ·exact zb ⟨b,o,j,xP a f.size,fun k m=>(f.cell (p:=⟨b,o+k,none⟩) a).trans (d k m)⟩
theorem SV.cell{w:World}{f:Option Addr}{n cap:Nat}{l:κ}(h:SV w (.slice f n cap) l)(k:Nat)(m:k<l.length):∃b o,f=some ⟨b,o,none⟩/\b<w.heap.size/\w.cell? ⟨b,o+k,none⟩=some (.string l[k]):=by
 obtain⟨i,g,d,p,e⟩:=h;simp at d;obtain⟨rfl,_,rfl⟩:=d;rcases e with⟨_,e⟩|⟨b,o,j,c,a⟩
 ·omega
 ·exact⟨b,o,j,c,a k m⟩
theorem SV.cells{f:Option Addr}{n cap:Nat}(h:SV w (.slice f n cap) l)(p:0<l.length):∃b o,f=some ⟨b,o,none⟩/\b<w.heap.size/\∀k (q:k<l.length),w.cell? ⟨b,o+k,none⟩=some (.string l[k]):=by
 obtain⟨i,g,d,m,e⟩:=h;simp at d;obtain⟨rfl,_,rfl⟩:=d;rcases e with⟨_,e⟩|⟨b,o,j,c,a⟩
 ·omega
 ·exact⟨b,o,j,c,a⟩
section
variable {P:Program} {ops:Array Oper} {rest:List Oper} {o:Oper} {a:Act} {Q:Exit->Act->World->Prop}
theorem qW(w D:World)(U:o.guard=none)(x:Operand)(t e:TypeId)(lo m:Option Operand)(s:o.op=.slice t x lo m none)
  (T:P.underlying t=some (.slice e)) (B:TypeInfo) (V:P.info? e=some B) (u:P.cellsOf e=1) (v:Value) (l:κ) (I:a.eval x=v) (L:SV D v l)
  (i j:Nat) (C:lo.map a.eval=none/\i=0∨lo.map a.eval=some (ι (i:Int))) (A:m.map a.eval=none/\j=l.length∨m.map a.eval=some (ι (j:Int))) (M:i<=j) (W:j<=l.length) (n:Nat) (O:j-i=n)
  (J:∀f c,SV D (.slice f n c) ((l.drop i).take n)->wpList P ops Q rest (a.put o.dst (.slice f n c)) w):wpList P ops Q (o::rest) a w:=by
 subst O;obtain⟨f,c,rfl,X,S⟩:=L;have N:(j:Int)<=(c:Int):=by omega
 have R:(i:Int)<=(j:Int):=by omega
 have H:(Instr.sliceBounds true l.length c (lo.map a.eval) (m.map a.eval) none).run P w=.ok (i,j,c) w:=by
  rcases C with⟨G,rfl⟩|G<;>rcases A with⟨F,rfl⟩|F<;>rw[G,F]<;>simp[Instr.sliceBounds,run_sliceBound,N,R]
 refine wpList_plain U fun K z=>?_;unfold Oper.wp;have d:((l.drop i).take (j-i)).length=j-i:=by simp;omega
 have r:(sizeOf e).run P w=.ok 1 w:=by rw[←u];simp[sizeOf,typeInfo,Program.cellsOf,V]
 have p:(Instr.sliceAt t (.slice f l.length c) (lo.map a.eval) (m.map a.eval) none).run P w=.ok (.slice (if c=i then f else f.map (·.add (i*1))) (j-i) (c-i)) w:=by
  simp[Instr.sliceAt,run_underlying T,Instr.slice,H,r]
 simp only[execOp,s,I,Option.map_none,p,Sem.run_bind,Result.andThen];simp;refine z _ _ (J _ _ ?_);refine⟨_,_,by rw[d],by rw[d];omega,?_⟩;rcases S with⟨rfl,rfl⟩|⟨b,E,rfl,h,q⟩
 ·left;exact⟨by split<;>rfl,by omega⟩
 ·right;by_cases g:c=i
  ·refine⟨b,E,by rw[zc g],h,fun k y=>?_⟩;rw[d] at y;omega
  ·refine⟨b,E+i,?_,h,fun k y=>?_⟩
   ·rw[za g];simp[Addr.add_lit]
   ·rw[d] at y;rw[Nat.add_assoc,q (i+k) (by omega)];simp
end
theorem PW:prog.cellsOf 9=1:=by kernel_rfl
end
section
open Go.RowKit
variable {lo:Nat}{l:κ}
def gB(l:κ)(i:Nat):ByteArray:=l.getD i ByteArray.empty
theorem xv{i:Nat}(h:i<l.length):l[i]=gB l i:=by simp[gB,h]
def Su(l:κ)(i:Nat):Bool:=if i%2=0 then Rf (QG (gB l i) 0) else((gB l i).toList == [44])
def uR(l:κ):Nat->κ
 |0=>[]
 |i+1=>uR l i++(if 2<=i/\i%2=0 then [gB l i] else [])
theorem ef(l:κ):∀i,(uR l i).length<=i
 |0=>zg _
 |i+1=>by have:=ef l i;unfold uR;split<;>simp<;>omega
def qq(l:κ):Nat->Bool
 |0=>true
 |i+1=>qq l i&&(decide (i<2)||Su l i)
theorem Df{i:Nat}(h:qq l i=false):∀k,i<=k->qq l k=false:=by
 intro k c;induction k with
 |zero=>
  have:i=0:=by omega
  subst this;exact h
 |succ k b=>
  rcases gV k i with a|a
  ·have:i=k+1:=by omega
   subst this;exact h
  ·simp[qq,b a]
def xe(neg:Bool)(l:κ):Option zj:=
 if l.length=0 then none else if yN (QG (gB l 0) 0)=false then none else if l.length=1 then some ⟨neg,gB l 0,[]⟩
 else if l.length<4∨l.length%2=1∨((gB l 1).toList == [40])=false∨((gB l (l.length-1)).toList == [41])=false then none
 else if qq l (l.length-1) then some ⟨neg,gB l 0,uR l (l.length-1)⟩ else none
def Rr(l:κ)(a:Bool):Bool:=decide (0<l.length)&&((gB l 0).toList == [33])&&!a
def jB(l:κ)(a:Bool):Option zj:=if Rr l a then xe true l.tail else xe false l
def j0(o:Option zj)(w:World)(e:Ending)(w':World):Prop:=
 μ w w'/\match o with
  |none=>∃b p f n c,e=ε (.tuple #[.agg #[.bool b,.string p,.slice f n c],.bool false])
  |some a=>∃d,e=ε (.tuple #[.agg #[.bool a.neg,.string a.pred,d],.bool true])/\QF w.heap.size w' d a.args
theorem mz{a:Bool}(b:Rr l a=false):¬0<l.length∨(0<l.length/\((gB l 0).toList == [33])=false)∨((0<l.length/\((gB l 0).toList == [33])=true)/\a=true):=by
 by_cases c:0<l.length
 ·right;simp only[Rr,decide_eq_true c,mF,wt] at b;cases h:((gB l 0).toList == [33]) with
  |false=>exact zf ⟨c,rfl⟩
  |true=>rw[h] at b;simp at b;exact zb ⟨⟨c,rfl⟩,b⟩
 ·exact zf c
end
section
open Go.Proofs.Tryz Go.RowKit
theorem Lf(w:World)(v:Value)(L:κ)(b:Bool)(c:SV w v L)(f:∀y∈L,0<y.size)(k:L.length<=500)(h:Rr L b=false)(g:L.length=0):
  Calls prog 152 #[v,.bool b] w fun e j=>j0 none w e j:=by
 have a:=mz h;obtain⟨i,d,rfl⟩:=c.qx;rcases a with a|⟨a,_⟩|⟨⟨a,_⟩,rfl⟩
 ·go_enter func152,ntmps152;go_wp2;exact zK (v:=.tuple #[.agg #[.bool false,.string ByteArray.empty,ν],.bool false]) (by simp[results,results152,go_sem];try rfl) rfl ⟨(by go_grown),_,_,_,_,_,rfl⟩
 ·omega
 ·omega
theorem Gf(w:World)(v:Value)(L:κ)(c:Bool)(d:SV w v L)(h:∀y∈L,0<y.size)(q:L.length<=500)(n:Rr L c=false)(m:¬L.length=0)(hs:yN (QG (gB L 0) 0)=false):
  Calls prog 152 #[v,.bool c] w fun e l=>j0 none w e l:=by
 have a:=mz n;obtain⟨p,j,rfl⟩:=d.qx;have i:0<(gB L 0).size:=by rw[←xv (by omega:0<L.length)];exact h _ (zs _)
 obtain⟨b,o,rfl,k,g⟩:=d.cells (by omega);have f:=g 0 (by omega);rw[xv (by omega)] at f;rw[vc] at f;rcases a with a|⟨_,a⟩|⟨⟨_,a⟩,rfl⟩
 ·omega
 all_goals
  go_enter func152,ntmps152;go_wp2_with (go_at_call 184;refine(kA _ _ i).mono ?_;rintro e l ⟨rfl,rfl⟩)
  exact zK (v:=.tuple #[.agg #[.bool false,.string ByteArray.empty,ν],.bool false]) (by simp[results,results152,go_sem];try rfl) rfl ⟨(by go_grown),_,_,_,_,_,rfl⟩
theorem J5(w:World)(v:Value)(L:κ)(c:Bool)(d:SV w v L)(h:∀y∈L,0<y.size)(r:L.length<=500)(n:Rr L c=false)(m:¬L.length=0)(hs:yN (QG (gB L 0) 0)=true)(p:L.length=1):
  Calls prog 152 #[v,.bool c] w fun e l=>j0 (some ⟨false,gB L 0,[]⟩) w e l:=by
 have a:=mz n;obtain⟨q,j,rfl⟩:=d.qx;have i:0<(gB L 0).size:=by rw[←xv (by omega:0<L.length)];exact h _ (zs _)
 obtain⟨b,o,rfl,k,g⟩:=d.cells (by omega);have f:=g 0 (by omega);rw[xv (by omega)] at f;rw[vc] at f;rcases a with a|⟨_,a⟩|⟨⟨_,a⟩,rfl⟩
 ·omega
 all_goals
  go_enter func152,ntmps152;go_wp2_with (go_at_call 184;refine(kA _ _ i).mono ?_;rintro e l ⟨rfl,rfl⟩)
  exact zK (v:=.tuple #[.agg #[.bool false,.string (gB L 0),ν],.bool true]) (by simp[results,results152,go_sem]) rfl ⟨(by go_grown),_,rfl,QF.nil _⟩
theorem IH(w:World)(v:Value)(L:κ)(c:Bool)(d:SV w v L)(h:∀y∈L,0<y.size)(s:L.length<=500)(p:Rr L c=false)(m:¬L.length=0)(hs:yN (QG (gB L 0) 0)=true)(q:¬L.length=1)(n:L.length<4):
  Calls prog 152 #[v,.bool c] w fun e l=>j0 none w e l:=by
 have a:=mz p;obtain⟨r,j,rfl⟩:=d.qx;have i:0<(gB L 0).size:=by rw[←xv (by omega:0<L.length)];exact h _ (zs _)
 obtain⟨b,o,rfl,k,g⟩:=d.cells (by omega);have f:=g 0 (by omega);rw[xv (by omega)] at f;rw[vc] at f;rcases a with a|⟨_,a⟩|⟨⟨_,a⟩,rfl⟩
 ·omega
 all_goals
  go_enter func152,ntmps152;go_wp2_with (go_at_call 184;refine(kA _ _ i).mono ?_;rintro e l ⟨rfl,rfl⟩)
  exact zK (v:=.tuple #[.agg #[.bool false,.string (gB L 0),ν],.bool false]) (by simp[results,results152,go_sem];try rfl) rfl ⟨(by go_grown),_,_,_,_,_,rfl⟩
theorem P5(w:World)(v:Value)(L:κ)(c:Bool)(d:SV w v L)(h:∀y∈L,0<y.size)(t:L.length<=500)(q:Rr L c=false)(m:¬L.length=0)(hs:yN (QG (gB L 0) 0)=true)(r:¬L.length=1)(n:¬L.length<4)(p:L.length%2=1):
  Calls prog 152 #[v,.bool c] w fun e l=>j0 none w e l:=by
 have a:=mz q;obtain⟨s,j,rfl⟩:=d.qx;have i:0<(gB L 0).size:=by rw[←xv (by omega:0<L.length)];exact h _ (zs _)
 obtain⟨b,o,rfl,k,g⟩:=d.cells (by omega);have f:=g 0 (by omega);rw[xv (by omega)] at f;rw[vc] at f;rcases a with a|⟨_,a⟩|⟨⟨_,a⟩,rfl⟩
 ·omega
 all_goals
  go_enter func152,ntmps152;go_wp2_with (go_at_call 184;refine(kA _ _ i).mono ?_;rintro e l ⟨rfl,rfl⟩)
  exact zK (v:=.tuple #[.agg #[.bool false,.string (gB L 0),ν],.bool false]) (by simp[results,results152,go_sem];try rfl) rfl ⟨(by go_grown),_,_,_,_,_,rfl⟩
theorem Py(w:World)(v:Value)(L:κ)(c:Bool)(f:SV w v L)(h:∀y∈L,0<y.size)(r:L.length<=500)(q:Rr L c=false)(t:¬L.length=0)(hs:yN (QG (gB L 0) 0)=true)(s:¬L.length=1)(n:¬L.length<4)(p:¬L.length%2=1)(u:((gB L 1).toList == [40])=false):
  Calls prog 152 #[v,.bool c] w fun e l=>j0 none w e l:=by
 have a:=mz q;obtain⟨x,k,rfl⟩:=f.qx;have i:0<(gB L 0).size:=by rw[←xv (by omega:0<L.length)];exact h _ (zs _)
 obtain⟨b,o,rfl,m,d⟩:=f.cells (by omega);have g:=d 0 (by omega);have j:=d 1 (by omega);rw[xv (by omega)] at g j;rw[vc] at g;rcases a with a|⟨_,a⟩|⟨⟨_,a⟩,rfl⟩
 ·omega
 all_goals
  go_enter func152,ntmps152;go_wp2_with (go_at_call 184;refine(kA _ _ i).mono ?_;rintro e l ⟨rfl,rfl⟩)
  exact zK (v:=.tuple #[.agg #[.bool false,.string (gB L 0),ν],.bool false]) (by simp[results,results152,go_sem];try rfl) rfl ⟨(by go_grown),_,_,_,_,_,rfl⟩
theorem Od(w:World)(v:Value)(L:κ)(c:Bool)(f:SV w v L)(h:∀y∈L,0<y.size)(t:L.length<=500)(r:Rr L c=false)(x:¬L.length=0)(hs:yN (QG (gB L 0) 0)=true)(u:¬L.length=1)(p:¬L.length<4)(q:¬L.length%2=1)(z:((gB L 1).toList == [40])=true)(s:((gB L (L.length-1)).toList == [41])=false):
  Calls prog 152 #[v,.bool c] w fun e m=>j0 none w e m:=by
 have a:=mz r;obtain⟨A,l,rfl⟩:=f.qx;have i:0<(gB L 0).size:=by rw[←xv (by omega:0<L.length)];exact h _ (zs _)
 obtain⟨b,o,rfl,n,d⟩:=f.cells (by omega);have g:=d 0 (by omega);have j:=d 1 (by omega);have k:=d (L.length-1) (by omega);rw[xv (by omega)] at g j k;rw[vc] at g;rcases a with a|⟨_,a⟩|⟨⟨_,a⟩,rfl⟩
 ·omega
 all_goals
  go_enter func152,ntmps152;go_wp2_with (go_at_call 184;refine(kA _ _ i).mono ?_;rintro e m ⟨rfl,rfl⟩)
  exact zK (v:=.tuple #[.agg #[.bool false,.string (gB L 0),ν],.bool false]) (by simp[results,results152,go_sem];try rfl) rfl ⟨(by go_grown),_,_,_,_,_,rfl⟩
theorem KC(w:World)(v:Value)(x:ByteArray)(L:κ)(b:SV w v (x::L))(j:∀y∈L,0<y.size)(t:(x.toList == [33])=true)(n:L.length<=500)(r:L.length=0):
  Calls prog 152 #[v,.bool false] w fun e o=>j0 none w e o:=by
 obtain⟨l,q,i,m,k⟩:=info_parts Q0;obtain⟨p,h,rfl⟩:=b.qx;obtain⟨u,z,rfl,f,a⟩:=b.cells (by simp);have d:=a 0 (by simp);rw[vc,gH] at d;go_enter func152,ntmps152;go_wp2_with (refine qW _ w rfl (.tmp 26) 30 9 (some (.const (ι 1))) none rfl underlying30 l q PW _ (x::L) rfl b 1 (L.length+1) (zb rfl) (zf ⟨rfl,rfl⟩) (by omega) (by simp) L.length (by omega) ?_;intro s g c;simp only[lI,gR,vr] at c)
 exact zK (v:=.tuple #[.agg #[.bool true,.string ByteArray.empty,ν],.bool false]) (by simp[results,results152,go_sem];try rfl) rfl ⟨(by go_grown),_,_,_,_,_,rfl⟩
theorem Gh(w:World)(v:Value)(x:ByteArray)(L:κ)(h:SV w v (x::L))(g:∀y∈L,0<y.size)(E:(x.toList == [33])=true)(u:L.length<=500)(C:¬L.length=0)(hs:yN (QG (gB L 0) 0)=false):
  Calls prog 152 #[v,.bool false] w fun e n=>j0 none w e n:=by
 obtain⟨s,B,p,t,r⟩:=info_parts Q0;obtain⟨A,m,rfl⟩:=h.qx;obtain⟨F,G,rfl,k,d⟩:=h.cells (by simp);have j:=d 0 (by simp);rw[vc,gH] at j;have i:0<(gB L 0).size:=by rw[←xv (by omega:0<L.length)];exact g _ (zs _)
 go_enter func152,ntmps152;go_wp2_with (first|(refine qW _ w rfl (.tmp 26) 30 9 (some (.const (ι 1))) none rfl underlying30 s B PW _ (x::L) rfl h 1 (L.length+1) (zb rfl) (zf ⟨rfl,rfl⟩) (by omega) (by simp) L.length (by omega) ?_;intro D l c;simp only[lI,gR,vr] at c;obtain⟨b,o,rfl,q,a⟩:=c.cells (by omega);have f:=a 0 (by omega);rw[xv (by omega)] at f;rw[vc] at f;have z:=Q7 a;clear a)|(go_at_call 184;refine(kA _ _ i).mono ?_;rintro e n ⟨rfl,rfl⟩))
 exact zK (v:=.tuple #[.agg #[.bool true,.string ByteArray.empty,ν],.bool false]) (by simp[results,results152,go_sem];try rfl) rfl ⟨(by go_grown),_,_,_,_,_,rfl⟩
theorem G0(w:World)(v:Value)(x:ByteArray)(L:κ)(h:SV w v (x::L))(g:∀y∈L,0<y.size)(F:(x.toList == [33])=true)(u:L.length<=500)(D:¬L.length=0)(hs:yN (QG (gB L 0) 0)=true)(A:L.length=1):
  Calls prog 152 #[v,.bool false] w fun e n=>j0 (some ⟨true,gB L 0,[]⟩) w e n:=by
 obtain⟨s,C,p,t,r⟩:=info_parts Q0;obtain⟨B,m,rfl⟩:=h.qx;obtain⟨G,H,rfl,k,d⟩:=h.cells (by simp);have j:=d 0 (by simp);rw[vc,gH] at j;have i:0<(gB L 0).size:=by rw[←xv (by omega:0<L.length)];exact g _ (zs _)
 go_enter func152,ntmps152;go_wp2_with (first|(refine qW _ w rfl (.tmp 26) 30 9 (some (.const (ι 1))) none rfl underlying30 s C PW _ (x::L) rfl h 1 (L.length+1) (zb rfl) (zf ⟨rfl,rfl⟩) (by omega) (by simp) L.length (by omega) ?_;intro E l c;simp only[lI,gR,vr] at c;obtain⟨b,o,rfl,q,a⟩:=c.cells (by omega);have f:=a 0 (by omega);rw[xv (by omega)] at f;rw[vc] at f;have z:=Q7 a;clear a)|(go_at_call 184;refine(kA _ _ i).mono ?_;rintro e n ⟨rfl,rfl⟩))
 exact zK (v:=.tuple #[.agg #[.bool true,.string (gB L 0),ν],.bool true]) (by simp[results,results152,go_sem]) rfl ⟨(by go_grown),_,rfl,QF.nil _⟩
theorem Kv(w:World)(v:Value)(x:ByteArray)(L:κ)(h:SV w v (x::L))(g:∀y∈L,0<y.size)(G:(x.toList == [33])=true)(z:L.length<=500)(E:¬L.length=0)(hs:yN (QG (gB L 0) 0)=true)(B:¬L.length=1)(t:L.length<4):
  Calls prog 152 #[v,.bool false] w fun e n=>j0 none w e n:=by
 obtain⟨s,D,p,u,r⟩:=info_parts Q0;obtain⟨C,m,rfl⟩:=h.qx;obtain⟨H,I,rfl,k,d⟩:=h.cells (by simp);have j:=d 0 (by simp);rw[vc,gH] at j;have i:0<(gB L 0).size:=by rw[←xv (by omega:0<L.length)];exact g _ (zs _)
 go_enter func152,ntmps152;go_wp2_with (first|(refine qW _ w rfl (.tmp 26) 30 9 (some (.const (ι 1))) none rfl underlying30 s D PW _ (x::L) rfl h 1 (L.length+1) (zb rfl) (zf ⟨rfl,rfl⟩) (by omega) (by simp) L.length (by omega) ?_;intro F l c;simp only[lI,gR,vr] at c;obtain⟨b,o,rfl,q,a⟩:=c.cells (by omega);have f:=a 0 (by omega);rw[xv (by omega)] at f;rw[vc] at f;have A:=Q7 a;clear a)|(go_at_call 184;refine(kA _ _ i).mono ?_;rintro e n ⟨rfl,rfl⟩))
 exact zK (v:=.tuple #[.agg #[.bool true,.string (gB L 0),ν],.bool false]) (by simp[results,results152,go_sem];try rfl) rfl ⟨(by go_grown),_,_,_,_,_,rfl⟩
theorem Ji(w:World)(v:Value)(x:ByteArray)(L:κ)(h:SV w v (x::L))(g:∀y∈L,0<y.size)(H:(x.toList == [33])=true)(z:L.length<=500)(F:¬L.length=0)(hs:yN (QG (gB L 0) 0)=true)(C:¬L.length=1)(t:¬L.length<4)(u:L.length%2=1):
  Calls prog 152 #[v,.bool false] w fun e n=>j0 none w e n:=by
 obtain⟨s,E,p,A,r⟩:=info_parts Q0;obtain⟨D,m,rfl⟩:=h.qx;obtain⟨I,J,rfl,k,d⟩:=h.cells (by simp);have j:=d 0 (by simp);rw[vc,gH] at j;have i:0<(gB L 0).size:=by rw[←xv (by omega:0<L.length)];exact g _ (zs _)
 go_enter func152,ntmps152;go_wp2_with (first|(refine qW _ w rfl (.tmp 26) 30 9 (some (.const (ι 1))) none rfl underlying30 s E PW _ (x::L) rfl h 1 (L.length+1) (zb rfl) (zf ⟨rfl,rfl⟩) (by omega) (by simp) L.length (by omega) ?_;intro G l c;simp only[lI,gR,vr] at c;obtain⟨b,o,rfl,q,a⟩:=c.cells (by omega);have f:=a 0 (by omega);rw[xv (by omega)] at f;rw[vc] at f;have B:=Q7 a;clear a)|(go_at_call 184;refine(kA _ _ i).mono ?_;rintro e n ⟨rfl,rfl⟩))
 exact zK (v:=.tuple #[.agg #[.bool true,.string (gB L 0),ν],.bool false]) (by simp[results,results152,go_sem];try rfl) rfl ⟨(by go_grown),_,_,_,_,_,rfl⟩
theorem P4(w:World)(v:Value)(x:ByteArray)(L:κ)(h:SV w v (x::L))(g:∀y∈L,0<y.size)(J:(x.toList == [33])=true)(A:L.length<=500)(G:¬L.length=0)(hs:yN (QG (gB L 0) 0)=true)(D:¬L.length=1)(u:¬L.length<4)(z:¬L.length%2=1)(H:((gB L 1).toList == [40])=false):
  Calls prog 152 #[v,.bool false] w fun e p=>j0 none w e p:=by
 obtain⟨t,F,q,B,s⟩:=info_parts Q0;obtain⟨E,n,rfl⟩:=h.qx;obtain⟨K,M,rfl,l,d⟩:=h.cells (by simp);have k:=d 0 (by simp);rw[vc,gH] at k;have i:0<(gB L 0).size:=by rw[←xv (by omega:0<L.length)];exact g _ (zs _)
 go_enter func152,ntmps152;go_wp2_with (first|(refine qW _ w rfl (.tmp 26) 30 9 (some (.const (ι 1))) none rfl underlying30 t F PW _ (x::L) rfl h 1 (L.length+1) (zb rfl) (zf ⟨rfl,rfl⟩) (by omega) (by simp) L.length (by omega) ?_;intro I m c;simp only[lI,gR,vr] at c;obtain⟨b,o,rfl,r,a⟩:=c.cells (by omega);have f:=a 0 (by omega);have j:=a 1 (by omega);rw[xv (by omega)] at f j;rw[vc] at f;have C:=Q7 a;clear a)|(go_at_call 184;refine(kA _ _ i).mono ?_;rintro e p ⟨rfl,rfl⟩))
 exact zK (v:=.tuple #[.agg #[.bool true,.string (gB L 0),ν],.bool false]) (by simp[results,results152,go_sem];try rfl) rfl ⟨(by go_grown),_,_,_,_,_,rfl⟩
theorem MR(w:World)(v:Value)(x:ByteArray)(L:κ)(h:SV w v (x::L))(g:∀y∈L,0<y.size)(M:(x.toList == [33])=true)(C:L.length<=500)(I:¬L.length=0)(hs:yN (QG (gB L 0) 0)=true)(F:¬L.length=1)(z:¬L.length<4)(A:¬L.length%2=1)(J:((gB L 1).toList == [40])=true)(B:((gB L (L.length-1)).toList == [41])=false):
  Calls prog 152 #[v,.bool false] w fun e q=>j0 none w e q:=by
 obtain⟨u,H,r,D,t⟩:=info_parts Q0;obtain⟨G,p,rfl⟩:=h.qx;obtain⟨N,O,rfl,m,d⟩:=h.cells (by simp);have k:=d 0 (by simp);rw[vc,gH] at k;have i:0<(gB L 0).size:=by rw[←xv (by omega:0<L.length)];exact g _ (zs _)
 go_enter func152,ntmps152;go_wp2_with (first|(refine qW _ w rfl (.tmp 26) 30 9 (some (.const (ι 1))) none rfl underlying30 u H PW _ (x::L) rfl h 1 (L.length+1) (zb rfl) (zf ⟨rfl,rfl⟩) (by omega) (by simp) L.length (by omega) ?_;intro K n c;simp only[lI,gR,vr] at c;obtain⟨b,o,rfl,s,a⟩:=c.cells (by omega);have f:=a 0 (by omega);have j:=a 1 (by omega);have l:=a (L.length-1) (by omega);rw[xv (by omega)] at f j l;rw[vc] at f;have E:=Q7 a;clear a)|(go_at_call 184;refine(kA _ _ i).mono ?_;rintro e q ⟨rfl,rfl⟩))
 exact zK (v:=.tuple #[.agg #[.bool true,.string (gB L 0),ν],.bool false]) (by simp[results,results152,go_sem];try rfl) rfl ⟨(by go_grown),_,_,_,_,_,rfl⟩
theorem DJ{x:ByteArray}(h:(x.toList == [44])=true):Rf (QG x 0)=false:=by
 rw[beq_iff_eq,lM] at h;obtain⟨⟨l⟩⟩:=x;simp at h;subst h;rfl
theorem NJ(w:World)(v:Value)(L:κ)(z:Bool)(K:SV w v L)(J:∀y∈L,0<y.size)(ay:L.length<=500)(hb:Rr L z=false)(a2:¬L.length=0)(hs:yN (QG (gB L 0) 0)=true)(a7:¬L.length=1)(aq:¬L.length<4)(a4:¬L.length%2=1)(B:((gB L 1).toList == [40])=true)(D:((gB L (L.length-1)).toList == [41])=true):
  Calls prog 152 #[v,.bool z] w fun e G=>j0 (xe false L) w e G:=by
 obtain⟨i0,hi,T,ac,af⟩:=info_parts Q0;have c:=mz hb;obtain⟨a0,al,rfl⟩:=K.qx;have W:0<(gB L 0).size:=by rw[←xv (by omega:0<L.length)];exact J _ (zs _)
 obtain⟨b,o,rfl,P,j⟩:=K.cells (by omega);have R:=j 0 (by omega);have aa:=j 1 (by omega);have ai:=j (L.length-1) (by omega);rw[xv (by omega)] at R aa ai;rw[vc] at R;have ad:=Q7 j;clear j;have a3:((L.length:Int) == 0)=false:=by rw[beq_eq_false_iff_ne];omega
 have ax:((L.length:Int) == 1)=false:=by rw[beq_eq_false_iff_ne];omega
 have au:((L.length:Int)%2 == 1)=false:=by rw[beq_eq_false_iff_ne];omega
 rcases c with c|⟨_,c⟩|⟨⟨_,c⟩,rfl⟩
 ·omega
 all_goals
  go_enter func152,ntmps152;go_wp2_with (go_at_call 184;refine(kA _ _ W).mono ?_;rintro e G ⟨rfl,rfl⟩)
  go_loopw [9] (fun i wr=>∃(k:Nat) (av:Value),2<=k/\k<=L.length-1/\i=ι k/\Hid (qq L k=true)/\μ w wr/\Q8 wr w.heap.size #[.bool false,.string ByteArray.empty,ν] 90/\Q8 wr (w.heap.size+1) #[.bool false,.string (gB L 0),av] 90/\wr.ownsRow w.heap.size 9 1 av (uR L k).length ((uR L k).map Value.string)) (fun i _=>L.length-(intOf i).toNat)
  case atStart=>exact⟨2,_,zg _,by omega,rfl,by simp[Hid,qq],(by go_grown),(Q8.new w _ _).below zT,Q8.newAt _ _ _ _ (by simp),yD _ _ _ _⟩
  case round=>
   obtain⟨k,av,u,hk,rfl,H,l,g,m,a⟩:=hrel;obtain⟨C,q,rfl⟩:=zp a;obtain⟨az,ar⟩:=m.rules;obtain⟨A,aw⟩:=g.rules;have ap:=l.size;have am:=m.lt;have ak:=ef L k;by_cases a8:k<L.length-1
   ·have Y:=(l.cell (p:=⟨b,o+k,none⟩) P).trans (ad.out k (by omega));have a5:b<wr.heap.size:=by omega
    have a6:k<L.length:=by omega
    have n:0<L[k].size:=J _ (zs _);rw[xv (by omega:k<L.length)] at Y n;have F:uR L (k+1)=uR L k++(if 2<=k/\k%2=0 then [gB L k] else []):=rfl;have t:qq L (k+1)=(qq L k&&(decide (k<2)||Su L k)):=rfl;rw[H.out,decide_eq_false (by omega:¬k<2),mF,np] at t;have x:Hid (Su L k=false->qq L (L.length-1)=false):=fun h=>Df (i:=k+1) (by rw[t,h]) _ (by omega);unfold Su at t x;by_cases f:k%2=0
    ·rw[zc f] at t x;rw[zc ⟨u,f⟩] at F;have ab:((k:Int)%2 == 0)=true:=by rw[beq_iff_eq];omega
     have ae:((k:Int)%2 == 1)=false:=by rw[beq_eq_false_iff_ne];omega
     have O:=Q7 F;have E:=Q7 t;clear F t f;cases I:Rf (QG (gB L k) 0) with
     |false=>
      have S:Hid (xe false L=none):=by unfold Hid xe;rw[za (by omega),hs,za (by simp),za (by omega),za (by rw[B,D];simp;omega),x.out I];simp
      clear x O E;generalize gB L k=U at *;go_wp2_with (go_at_call 185;refine(mE _ _ n).mono ?_;rintro e G ⟨rfl,d⟩;obtain rfl:=d.symm)
      rw[S.out];exact zK (v:=.tuple #[.agg #[.bool false,.string (gB L 0),.slice C (uR L k).length q],.bool false]) (by simp[results,results152,go_sem,A];try rfl) rfl ⟨(by go_grown),_,_,_,_,_,rfl⟩
     |true=>
      rw[I] at E;clear x;generalize gB L k=U at *;generalize X:uR L k=Z at *;clear X;go_wp2_with (go_at_call 185;refine(mE _ _ n).mono ?_;rintro e G ⟨rfl,d⟩;obtain rfl:=d.symm)
      go_region_law (first|(refine oo wr _ [.string U] 9 rfl (.tmp 103) (.tmp 108) 30 rfl w.heap.size 9 i0 _ 1 16 underlying30 hi T ac af rfl (by decide) _ _ _ (by simp[Act.eval]) a (by exact(by go_grown)) wr.heap.size 1 (by simp[Act.eval]) (by exact Q8.drew (Q8.newAt _ _ _ _ rfl)) rfl (by simp[Value.oneCell']) (by omega) (by omega) l.size ?_;intro v' w2 N V u an;obtain⟨ag,Q,rfl⟩:=zp N;have s:=Q8.keep (Q8.drew (m.below zT)) (ly a m (by decide)) u;have M:=Q8.keep (Q8.drew (g.below zT)) (ly a g (by decide)) u;obtain⟨aj,ao⟩:=s.rules))
      all_goals
       go_wp2;go_roundw
       ·exact⟨k+1,_,by omega,by omega,by go_num,E,(l.trans V).setCell (by simp) _,M.set_ne (by omega) _ _,s.set 2 _,by rw[O.out];have:=xO N ((QJ.refl (w.heap.size+1) w2).setCell 2 (.slice ag (Z.length+1) Q)) s (by decide);simpa using this⟩
       ·simp[intOf];omega
    ·rw[za f] at t x;rw[za (by omega),qM] at F;have ab:((k:Int)%2 == 0)=false:=by rw[beq_eq_false_iff_ne];omega
     have ae:((k:Int)%2 == 1)=true:=by rw[beq_iff_eq];omega
     have O:=Q7 F;have E:=Q7 t;clear F t f;cases I:((gB L k).toList == [44]) with
     |false=>
      have S:Hid (xe false L=none):=by unfold Hid xe;rw[za (by omega),hs,za (by simp),za (by omega),za (by rw[B,D];simp;omega),x.out I];simp
      clear x O E;generalize gB L k=U at *;go_wp2_with (go_at_call 185;refine(mE _ _ n).mono ?_;rintro e G ⟨rfl,d⟩;obtain rfl:=d.symm)
      rw[S.out];exact zK (v:=.tuple #[.agg #[.bool false,.string (gB L 0),.slice C (uR L k).length q],.bool false]) (by simp[results,results152,go_sem,A];try rfl) rfl ⟨(by go_grown),_,_,_,_,_,rfl⟩
     |true=>
      rw[I] at E;have a1:=DJ I;clear x;generalize gB L k=U at *;go_wp2_with (go_at_call 185;refine(mE _ _ n).mono ?_;rintro e G ⟨rfl,d⟩;obtain rfl:=d.symm)
      go_roundw
      ·exact⟨k+1,_,by omega,by omega,by go_num,E,l,g,m,by rw[O.out];exact a⟩
      ·simp[intOf];omega
   ·have ah:k=L.length-1:=by omega
    have S:Hid (xe false L=some ⟨false,gB L 0,uR L k⟩):=by unfold Hid xe;rw[za (by omega),hs,za (by simp),za (by omega),za (by rw[B,D];simp;omega),←ah,H.out];simp
    clear H;generalize uR L k=Z at *;go_wp2;rw[S.out];exact zK (v:=.tuple #[.agg #[.bool false,.string (gB L 0),.slice C Z.length q],.bool true]) (by simp[results,results152,go_sem,A]) rfl ⟨(by go_grown),_,rfl,xO (r:=w.heap.size) a (by repeat'(first|with_reducible(first|apply xR|assumption|apply xN|apply xA|apply xD|apply xS|apply xT)|go_size)) g (by decide)⟩
theorem Id(w:World)(v:Value)(x:ByteArray)(L:κ)(W:SV w v (x::L))(J:∀y∈L,0<y.size)(hx:(x.toList == [33])=true)(a2:L.length<=500)(a7:¬L.length=0)(hs:yN (QG (gB L 0) 0)=true)(aC:¬L.length=1)(ax:¬L.length<4)(a9:¬L.length%2=1)(B:((gB L 1).toList == [40])=true)(D:((gB L (L.length-1)).toList == [41])=true):
  Calls prog 152 #[v,.bool false] w fun e G=>j0 (xe true L) w e G:=by
 obtain⟨i0,hi,T,ad,ag⟩:=info_parts Q0;obtain⟨a6,aq,rfl⟩:=W.qx;obtain⟨b1,o1,rfl,ac,z⟩:=W.cells (by simp);have aj:=z 0 (by simp);rw[vc,gH] at aj;clear z;have X:0<(gB L 0).size:=by rw[←xv (by omega:0<L.length)];exact J _ (zs _)
 have a8:((L.length:Int) == 0)=false:=by rw[beq_eq_false_iff_ne];omega
 have a1:((L.length:Int) == 1)=false:=by rw[beq_eq_false_iff_ne];omega
 have az:((L.length:Int)%2 == 1)=false:=by rw[beq_eq_false_iff_ne];omega
 go_enter func152,ntmps152;go_wp2_with (first|(refine qW _ w rfl (.tmp 26) 30 9 (some (.const (ι 1))) none rfl underlying30 i0 hi PW _ (x::L) rfl W 1 (L.length+1) (zb rfl) (zf ⟨rfl,rfl⟩) (by omega) (by simp) L.length (by omega) ?_;intro a4 ao K;simp only[lI,gR,vr] at K;obtain⟨b,o,rfl,P,g⟩:=K.cells (by omega);have R:=g 0 (by omega);have aa:=g 1 (by omega);have al:=g (L.length-1) (by omega);rw[xv (by omega)] at R aa al;rw[vc] at R;have ae:=Q7 g;clear g)|(go_at_call 184;refine(kA _ _ X).mono ?_;rintro e G ⟨rfl,rfl⟩))
 go_loopw [9] (fun i wr=>∃(k:Nat) (av:Value),2<=k/\k<=L.length-1/\i=ι k/\Hid (qq L k=true)/\μ w wr/\Q8 wr w.heap.size #[.bool false,.string ByteArray.empty,ν] 90/\Q8 wr (w.heap.size+1) #[.bool true,.string (gB L 0),av] 90/\wr.ownsRow w.heap.size 9 1 av (uR L k).length ((uR L k).map Value.string)) (fun i _=>L.length-(intOf i).toNat)
 case atStart=>exact⟨2,_,zg _,by omega,rfl,by simp[Hid,qq],(by go_grown),(Q8.new w _ _).below zT,Q8.newAt _ _ _ _ (by simp),yD _ _ _ _⟩
 case round=>
  obtain⟨k,av,t,hk,rfl,H,j,f,l,a⟩:=hrel;obtain⟨C,n,rfl⟩:=zp a;obtain⟨a3,ay⟩:=l.rules;obtain⟨A,a0⟩:=f.rules;have aw:=j.size;have ap:=l.lt;have an:=ef L k;by_cases aD:k<L.length-1
  ·have Z:=(j.cell (p:=⟨b,o+k,none⟩) P).trans (ae.out k (by omega));have aA:b<wr.heap.size:=by omega
   have aB:k<L.length:=by omega
   have m:0<L[k].size:=J _ (zs _);rw[xv (by omega:k<L.length)] at Z m;have F:uR L (k+1)=uR L k++(if 2<=k/\k%2=0 then [gB L k] else []):=rfl;have s:qq L (k+1)=(qq L k&&(decide (k<2)||Su L k)):=rfl;rw[H.out,decide_eq_false (by omega:¬k<2),mF,np] at s;have u:Hid (Su L k=false->qq L (L.length-1)=false):=fun h=>Df (i:=k+1) (by rw[s,h]) _ (by omega);unfold Su at s u;by_cases d:k%2=0
   ·rw[zc d] at s u;rw[zc ⟨t,d⟩] at F;have ab:((k:Int)%2 == 0)=true:=by rw[beq_iff_eq];omega
    have af:((k:Int)%2 == 1)=false:=by rw[beq_eq_false_iff_ne];omega
    have O:=Q7 F;have E:=Q7 s;clear F s d;cases I:Rf (QG (gB L k) 0) with
    |false=>
     have S:Hid (xe true L=none):=by unfold Hid xe;rw[za (by omega),hs,za (by simp),za (by omega),za (by rw[B,D];simp;omega),u.out I];simp
     clear u O E;generalize gB L k=U at *;go_wp2_with (go_at_call 185;refine(mE _ _ m).mono ?_;rintro e G ⟨rfl,c⟩;obtain rfl:=c.symm)
     rw[S.out];exact zK (v:=.tuple #[.agg #[.bool true,.string (gB L 0),.slice C (uR L k).length n],.bool false]) (by simp[results,results152,go_sem,A];try rfl) rfl ⟨(by go_grown),_,_,_,_,_,rfl⟩
    |true=>
     rw[I] at E;clear u;generalize gB L k=U at *;generalize Y:uR L k=ak at *;clear Y;go_wp2_with (go_at_call 185;refine(mE _ _ m).mono ?_;rintro e G ⟨rfl,c⟩;obtain rfl:=c.symm)
     go_region_law (first|(refine oo wr _ [.string U] 9 rfl (.tmp 103) (.tmp 108) 30 rfl w.heap.size 9 i0 _ 1 16 underlying30 hi T ad ag rfl (by decide) _ _ _ (by simp[Act.eval]) a (by exact(by go_grown)) wr.heap.size 1 (by simp[Act.eval]) (by exact Q8.drew (Q8.newAt _ _ _ _ rfl)) rfl (by simp[Value.oneCell']) (by omega) (by omega) j.size ?_;intro v' w2 N V t ar;obtain⟨ah,Q,rfl⟩:=zp N;have q:=Q8.keep (Q8.drew (l.below zT)) (ly a l (by decide)) t;have M:=Q8.keep (Q8.drew (f.below zT)) (ly a f (by decide)) t;obtain⟨am,au⟩:=q.rules))
     all_goals
      go_wp2;go_roundw
      ·exact⟨k+1,_,by omega,by omega,by go_num,E,(j.trans V).setCell (by simp) _,M.set_ne (by omega) _ _,q.set 2 _,by rw[O.out];have:=xO N ((QJ.refl (w.heap.size+1) w2).setCell 2 (.slice ah (ak.length+1) Q)) q (by decide);simpa using this⟩
      ·simp[intOf];omega
   ·rw[za d] at s u;rw[za (by omega),qM] at F;have ab:((k:Int)%2 == 0)=false:=by rw[beq_eq_false_iff_ne];omega
    have af:((k:Int)%2 == 1)=true:=by rw[beq_iff_eq];omega
    have O:=Q7 F;have E:=Q7 s;clear F s d;cases I:((gB L k).toList == [44]) with
    |false=>
     have S:Hid (xe true L=none):=by unfold Hid xe;rw[za (by omega),hs,za (by simp),za (by omega),za (by rw[B,D];simp;omega),u.out I];simp
     clear u O E;generalize gB L k=U at *;go_wp2_with (go_at_call 185;refine(mE _ _ m).mono ?_;rintro e G ⟨rfl,c⟩;obtain rfl:=c.symm)
     rw[S.out];exact zK (v:=.tuple #[.agg #[.bool true,.string (gB L 0),.slice C (uR L k).length n],.bool false]) (by simp[results,results152,go_sem,A];try rfl) rfl ⟨(by go_grown),_,_,_,_,_,rfl⟩
    |true=>
     rw[I] at E;have a5:=DJ I;clear u;generalize gB L k=U at *;go_wp2_with (go_at_call 185;refine(mE _ _ m).mono ?_;rintro e G ⟨rfl,c⟩;obtain rfl:=c.symm)
     go_roundw
     ·exact⟨k+1,_,by omega,by omega,by go_num,E,j,f,l,by rw[O.out];exact a⟩
     ·simp[intOf];omega
  ·have ai:k=L.length-1:=by omega
   have S:Hid (xe true L=some ⟨true,gB L 0,uR L k⟩):=by unfold Hid xe;rw[za (by omega),hs,za (by simp),za (by omega),za (by rw[B,D];simp;omega),←ai,H.out];simp
   clear H;generalize uR L k=ak at *;go_wp2;rw[S.out];exact zK (v:=.tuple #[.agg #[.bool true,.string (gB L 0),.slice C ak.length n],.bool true]) (by simp[results,results152,go_sem,A]) rfl ⟨(by go_grown),_,rfl,xO (r:=w.heap.size) a (by repeat'(first|with_reducible(first|apply xR|assumption|apply xN|apply xA|apply xD|apply xS|apply xT)|go_size)) f (by decide)⟩
end
section
variable {l:κ}
def yG(l:κ):Nat->Nat->Int->Nat->Option (List zj)
 |0,_,_,_=>some []
 |n+1,b,d,i=>
  if i<l.length then
   if ((gB l i).toList == [40]) then yG l n b (d+1) (i+1)
   else if ((gB l i).toList == [41]) then yG l n b (d-1) (i+1)
   else if ((gB l i).toList == [44])=false∨0<d then yG l n b d (i+1)
   else match jB ((l.drop b).take (i-b)) false with
    |none=>none
    |some a=>(yG l n (i+1) d (i+1)).map (a::·)
  else match jB ((l.drop b).take (i-b)) false with
   |none=>none
   |some a=>some [a]
theorem s40{x:ByteArray}(h:(x.toList == [40])=true):(x.toList == [41])=false/\(x.toList == [44])=false:=by rw[beq_iff_eq] at h;rw[h];exact⟨rfl,rfl⟩
theorem s41{x:ByteArray}(h:(x.toList == [41])=true):(x.toList == [40])=false/\(x.toList == [44])=false:=by rw[beq_iff_eq] at h;rw[h];exact⟨rfl,rfl⟩
def xC:κ->Nat
 |[]=>0
 |x::r=>if (x.toList == [58,45]) then 0 else xC r+1
theorem Es:∀l,xC l<=l.length
 |[]=>zg _
 |x::r=>by have:=Es r;unfold xC;split<;>simp<;>omega
theorem IE{j:Nat}(a:j<l.length)(h:((gB l j).toList == [58,45])=false):xC (l.drop j)=xC (l.drop (j+1))+1:=by
 rw[xn a,xC,xv a,h];rfl
theorem GT{j:Nat}(a:j<l.length)(h:((gB l j).toList == [58,45])=true):xC (l.drop j)=0:=by
 rw[xn a,xC,xv a,h];rfl
def jK(l:κ):Option zd:=
 match jB (l.take (xC l)) true with
 |none=>none
 |some h=>if xC l=l.length then some ⟨h,[]⟩ else
  match yG (l.drop (xC l+1)) ((l.drop (xC l+1)).length+1) 0 0 0 with
  |none=>none
  |some b=>some ⟨h,b⟩
def qI(l:κ):Nat->Nat->Nat->Option (List zd)
 |0,a,_=>if a=l.length then some [] else none
 |n+1,a,i=>
  if ((gB l i).toList == [46]) then
   match jK ((l.drop a).take (i-a)) with
   |none=>none
   |some c=>(qI l n (i+1) (i+1)).map (c::·)
  else qI l n a (i+1)
def vj(l:κ):Option (List zd):=qI l l.length 0 0
end
section
open Go.Proofs.Tryz Go.RowKit
variable {lo:Nat}{o:Option (List zj)}
theorem Ar(w:World)(v:Value)(l:κ)(b:Bool)(k:SV w v l)(g:∀y∈l,0<y.size)(q:l.length<=500):
  Calls prog 152 #[v,.bool b] w fun e u=>j0 (jB l b) w e u:=by
 unfold jB;cases p:Rr l b with
 |false=>
  rw[za (by simp)];by_cases d:l.length=0
  ·have:xe false l=none:=by unfold xe;rw[zc d]
   rw[this];exact Lf w v l b k g q p d
  ·cases f:yN (QG (gB l 0) 0) with
   |false=>
    have:xe false l=none:=by unfold xe;rw[za d,zc f]
    rw[this];exact Gf w v l b k g q p d f
   |true=>
    by_cases j:l.length=1
    ·have:xe false l=some ⟨false,gB l 0,[]⟩:=by unfold xe;rw[za d,f,za (by simp),zc j]
     rw[this];exact J5 w v l b k g q p d f j
    ·by_cases a:l.length<4∨l.length%2=1∨((gB l 1).toList == [40])=false∨((gB l (l.length-1)).toList == [41])=false
     ·have:xe false l=none:=by unfold xe;rw[za d,f,za (by simp),za j,zc a]
      rw[this];by_cases r:l.length<4
      ·exact IH w v l b k g q p d f j r
      ·by_cases s:l.length%2=1
       ·exact P5 w v l b k g q p d f j r s
       ·cases m:((gB l 1).toList == [40]) with
        |false=>exact Py w v l b k g q p d f j r s m
        |true=>
         cases n:((gB l (l.length-1)).toList == [41]) with
         |false=>exact Od w v l b k g q p d f j r s m n
         |true=>rw[m,n] at a;simp at a;omega
     ·simp only[not_or,rj] at a;exact NJ w v l b k g q p d f j a.1 a.2.1 a.2.2.1 a.2.2.2
 |true=>
  rw[zc rfl];simp only[Rr,uw,decide_eq_true_eq,Bool.not_eq_true'] at p;obtain⟨⟨z,t⟩,rfl⟩:=p;cases l with
  |nil=>simp at z
  |cons x l=>
   have h:(x.toList == [33])=true:=t;have c:∀y∈l,0<y.size:=fun y A=>g y (pE _ A);have i:l.length<=500:=by simp at q;omega
   rw[lW];by_cases d:l.length=0
   ·have:xe true l=none:=by unfold xe;rw[zc d]
    rw[this];exact KC w v x l k c h i d
   ·cases f:yN (QG (gB l 0) 0) with
    |false=>
     have:xe true l=none:=by unfold xe;rw[za d,zc f]
     rw[this];exact Gh w v x l k c h i d f
    |true=>
     by_cases j:l.length=1
     ·have:xe true l=some ⟨true,gB l 0,[]⟩:=by unfold xe;rw[za d,f,za (by simp),zc j]
      rw[this];exact G0 w v x l k c h i d f j
     ·by_cases a:l.length<4∨l.length%2=1∨((gB l 1).toList == [40])=false∨((gB l (l.length-1)).toList == [41])=false
      ·have:xe true l=none:=by unfold xe;rw[za d,f,za (by simp),za j,zc a]
       rw[this];by_cases r:l.length<4
       ·exact Kv w v x l k c h i d f j r
       ·by_cases s:l.length%2=1
        ·exact Ji w v x l k c h i d f j r s
        ·cases m:((gB l 1).toList == [40]) with
         |false=>exact P4 w v x l k c h i d f j r s m
         |true=>
          cases n:((gB l (l.length-1)).toList == [41]) with
          |false=>exact MR w v x l k c h i d f j r s m n
          |true=>rw[m,n] at a;simp at a;omega
      ·simp only[not_or,rj] at a;exact Id w v x l k c h i d f j a.1 a.2.1 a.2.2.1 a.2.2.2
theorem o7(w:World)(v:Value)(l:κ)(a:Bool)(j:SV w v l)(f:∀y∈l,0<y.size)(k:l.length<=500)(h:jB l a=none):
  Calls prog 152 #[v,.bool a] w fun e i=>∃b p d n c,e=ε (.tuple #[.agg #[.bool b,.string p,.slice d n c],.bool false])/\μ w i:=by
 refine(Ar w v l a j f k).mono ?_;rintro e i ⟨q,g⟩;rw[h] at g;obtain⟨b,p,d,n,c,m⟩:=g;exact⟨b,p,d,n,c,m,q⟩
theorem oY(w:World)(v:Value)(l:κ)(b:Bool)(a:zj)(j:SV w v l)(d:∀y∈l,0<y.size)(k:l.length<=500)(h:jB l b=some a):
  Calls prog 152 #[v,.bool b] w fun e f=>∃c,e=ε (.tuple #[.agg #[.bool a.neg,.string a.pred,c],.bool true])/\QF w.heap.size f c a.args/\μ w f:=by
 refine(Ar w v l b j d k).mono ?_;rintro e f ⟨n,g⟩;rw[h] at g;obtain⟨c,m,i⟩:=g;exact⟨c,m,i,n⟩
def eC(o:Option (List zj))(w:World)(e:Ending)(w':World):Prop:=
 μ w w'/\match o with
  |none=>e=ε (.tuple #[ν,.bool false])
  |some a=>∃v,e=ε (.tuple #[v,.bool true])/\Rg w.heap.size w' v a
theorem El{w w':World}(h:Hid (o=none))(a:μ w w'):eC o w (ε (.tuple #[ν,.bool false])) w':=by
 have b:o=none:=h;subst b;exact⟨a,rfl⟩
theorem Of{w w':World}{v:Value}{a:List zj}(h:Hid (o=some a))(b:μ w w')(hs:Rg w.heap.size w' v a):eC o w (ε (.tuple #[v,.bool true])) w':=by
 have c:o=some a:=h;subst c;exact⟨b,v,rfl,hs⟩
theorem EB(w:World)(v:Value)(l:κ)(Y:SV w v l)(Z:∀y∈l,0<y.size)(hl:l.length<=500):
  Calls prog 153 #[v] w fun e w'=>eC (yG l (l.length+1) 0 0 0) w e w':=by
 obtain⟨i0,hi,aa,ad,ag⟩:=info_parts PU;obtain⟨i1,M,_,_,_⟩:=info_parts Q0;obtain⟨ao,ar,rfl⟩:=Y.qx;go_enter func153,ntmps153;go_wp2;go_loopw [4,5,6,7] (fun v4 v5 v6 v7 wr=>∃(g:List zj) (f k m:Nat) (d:Int) (Q:List Value),v5=ι f/\v6=ι d/\v7=ι k/\f<=k/\k<=l.length+1/\m+k=l.length+1/\-500<=d+(k:Int)/\d<=k/\-(k:Int)<=d/\g.length<=k/\(k=l.length+1∨f<=l.length) ∧
   μ w wr/\wr.ownsRow w.heap.size 90 3 v4 g.length Q/\uL w.heap.size wr g Q/\Hid (yG l (l.length+1) 0 0 0=(yG l m f d k).map (g++·))) (fun _ _ _ i _=>l.length+1-(intOf i).toNat)
 case atStart=>exact⟨[],0,0,l.length+1,0,[],rfl,rfl,rfl,zg _,by omega,by omega,by omega,by omega,by omega,by simp,zb (by omega),zo _ _,yD _ _ _ _,rfl,(by simp[Hid])⟩
 case round=>
  obtain⟨g,f,k,m,d,Q,rfl,rfl,rfl,an,aw,ay,au,ax,ap,ak,aq,h,j,t,H⟩:=hrel;have al:=h.size;by_cases am:k<=l.length
  ·obtain⟨m,rfl⟩:∃m',m=m'+1:=⟨m-1,by omega⟩;by_cases N:k<l.length
   ·obtain⟨b,o,rfl,af,ae⟩:=Y.cell k N;have ah:=zl h af ae;have av:b<wr.heap.size:=by omega
    rw[xv N] at ah;clear ae;have c:yG l (m+1) f d k=(if ((gB l k).toList == [40]) then yG l m f (d+1) (k+1) else if ((gB l k).toList == [41]) then yG l m f (d-1) (k+1) else if ((gB l k).toList == [44])=false∨0<d then yG l m f d (k+1) else match jB ((l.drop f).take (k-f)) false with|none=>none|some a=>(yG l m (k+1) d (k+1)).map (a::·)):=by rw[yG,zc N];try rfl
    cases z:((gB l k).toList == [40]) with
    |true=>
     obtain⟨A,D⟩:=s40 z;have C:Hid (yG l (l.length+1) 0 0 0=(yG l m f (d+1) (k+1)).map (g++·)):=by rw[Hid,H.out,c,z];rfl
     clear H c;generalize gB l k=x at *;go_wp2;go_roundw
     ·exact⟨g,f,k+1,m,d+1,Q,rfl,rfl,by go_num,by omega,by omega,by omega,by omega,by omega,by omega,by omega,by omega,h,j,t,C⟩
     ·simp[intOf];omega
    |false=>
     cases A:((gB l k).toList == [41]) with
     |true=>
      obtain⟨_,D⟩:=s41 A;have C:Hid (yG l (l.length+1) 0 0 0=(yG l m f (d-1) (k+1)).map (g++·)):=by rw[Hid,H.out,c,z,A];rfl
      clear H c;generalize gB l k=x at *;go_wp2;go_roundw
      ·exact⟨g,f,k+1,m,d-1,Q,rfl,rfl,by go_num,by omega,by omega,by omega,by omega,by omega,by omega,by omega,by omega,h,j,t,C⟩
      ·simp[intOf];omega
     |false=>
      cases D:((gB l k).toList == [44]) with
      |false=>
       have C:Hid (yG l (l.length+1) 0 0 0=(yG l m f d (k+1)).map (g++·)):=by rw[Hid,H.out,c,z,A,D];simp
       clear H c;generalize gB l k=x at *;go_wp2;go_roundw
       ·exact⟨g,f,k+1,m,d,Q,rfl,rfl,by go_num,by omega,by omega,by omega,by omega,by omega,by omega,by omega,by omega,h,j,t,C⟩
       ·simp[intOf];omega
      |true=>
       by_cases aj:0<d
       ·have C:Hid (yG l (l.length+1) 0 0 0=(yG l m f d (k+1)).map (g++·)):=by rw[Hid,H.out,c,z,A,D];simp[aj]
        clear H c;generalize gB l k=x at *;go_wp2;go_roundw
        ·exact⟨g,f,k+1,m,d,Q,rfl,rfl,by go_num,by omega,by omega,by omega,by omega,by omega,by omega,by omega,by omega,h,j,t,C⟩
        ·simp[intOf];omega
       ·rw[z,A,D,za (by simp),za (by simp),za (by simp;omega)] at c;generalize gB l k=x at *;have K:Hid (∀y∈(l.drop f).take (k-f),0<y.size):=fun y hy=>Z y (dQ (fV hy));cases B:jB ((l.drop f).take (k-f)) false with
        |none=>
         have X:=Q7 B;have HF:Hid (yG l (l.length+1) 0 0 0=none):=by rw[Hid,H.out,c,B];rfl
         clear H c B;go_wp2_with (first|(refine qW _ w rfl (.tmp 58) 30 9 (some (.tmp 59)) (some (.tmp 60)) rfl underlying30 i1 M PW _ l rfl Y f k (zb rfl) (zb rfl) (by omega) (by omega) (k-f) rfl ?_;intro S I s)|(go_at_call 152;refine(o7 _ _ ((l.drop f).take (k-f)) false (by exact s.below h) K.out (by simp;omega) X).mono ?_;rintro e w1 ⟨b1,p1,ai,n1,ab,rfl,n⟩;have p:=QB h n;have G:=p.size))
         go_ret2
         exact El HF (by go_grown)
        |some a=>
         have X:=Q7 B;have C:Hid (yG l (l.length+1) 0 0 0=(yG l m (k+1) d (k+1)).map ((g++[a])++·)):=by rw[Hid,H.out,c,B];simp only[];rw[rN]
         clear H c B;go_wp2_with (first|(refine qW _ w rfl (.tmp 58) 30 9 (some (.tmp 59)) (some (.tmp 60)) rfl underlying30 i1 M PW _ l rfl Y f k (zb rfl) (zb rfl) (by omega) (by omega) (k-f) rfl ?_;intro S I s)|(go_at_call 152;refine(oY _ _ ((l.drop f).take (k-f)) false a (by exact s.below h) K.out (by simp;omega) X).mono ?_;rintro e w1 ⟨va,rfl,r,n⟩;obtain⟨W,L,rfl⟩:=r.qx;have p:=QB h n;have G:=p.size;have u:=zB j n;have J:=t.mono fun _ _ q=>q.below n)|(at_builtin;refine ki w1 _ _ _ rfl (.tmp 67) (.tmp 69) 91 rfl w.heap.size 90 i0 _ 3 48 underlying91 hi aa ad ag rfl (by decide) _ _ _ rfl u zT _ _ rfl (by simp) rfl (by simp[Value.oneCell']) (by omega) (by omega) G ?_;intro v' w2 T O V P F ac;clear V P;have U:QF w.heap.size w2 (Value.slice W a.args.length L) a.args:=yt (gx u (by decide) r F) h.size;have E:=J.mono fun _ _ q=>gx u (by decide) q F))
         go_roundw
         ·exact⟨g++[a],k+1,k+1,m,d,_,by go_num,rfl,by go_num,zg _,by omega,by omega,by omega,by omega,by omega,by simp;omega,by omega,p.trans O,by rw[yq];exact T,E.snoc U,C⟩
         ·simp[intOf];omega
   ·have c:yG l (m+1) f d k=(match jB ((l.drop f).take (k-f)) false with|none=>none|some a=>some [a]):=by rw[yG,za N];try rfl
    have R:m=0:=by omega
    have K:Hid (∀y∈(l.drop f).take (k-f),0<y.size):=fun y hy=>Z y (dQ (fV hy));cases B:jB ((l.drop f).take (k-f)) false with
    |none=>
     have X:=Q7 B;have HF:Hid (yG l (l.length+1) 0 0 0=none):=by rw[Hid,H.out,c,B];rfl
     clear H c B;go_wp2_with (first|(refine qW _ w rfl (.tmp 58) 30 9 (some (.tmp 59)) (some (.tmp 60)) rfl underlying30 i1 M PW _ l rfl Y f k (zb rfl) (zb rfl) (by omega) (by omega) (k-f) rfl ?_;intro S I s)|(go_at_call 152;refine(o7 _ _ ((l.drop f).take (k-f)) false (by exact s.below h) K.out (by simp;omega) X).mono ?_;rintro e w1 ⟨b1,p1,ai,n1,ab,rfl,n⟩;have p:=QB h n;have G:=p.size))
     go_ret2
     exact El HF (by go_grown)
    |some a=>
     have X:=Q7 B;have C:Hid (yG l (l.length+1) 0 0 0=(yG l m (k+1) d (k+1)).map ((g++[a])++·)):=by rw[Hid,H.out,c,B,R];simp[yG]
     clear H c B;go_wp2_with (first|(refine qW _ w rfl (.tmp 58) 30 9 (some (.tmp 59)) (some (.tmp 60)) rfl underlying30 i1 M PW _ l rfl Y f k (zb rfl) (zb rfl) (by omega) (by omega) (k-f) rfl ?_;intro S I s)|(go_at_call 152;refine(oY _ _ ((l.drop f).take (k-f)) false a (by exact s.below h) K.out (by simp;omega) X).mono ?_;rintro e w1 ⟨va,rfl,r,n⟩;obtain⟨W,L,rfl⟩:=r.qx;have p:=QB h n;have G:=p.size;have u:=zB j n;have J:=t.mono fun _ _ q=>q.below n)|(at_builtin;refine ki w1 _ _ _ rfl (.tmp 67) (.tmp 69) 91 rfl w.heap.size 90 i0 _ 3 48 underlying91 hi aa ad ag rfl (by decide) _ _ _ rfl u zT _ _ rfl (by simp) rfl (by simp[Value.oneCell']) (by omega) (by omega) G ?_;intro v' w2 T O V P F ac;clear V P;have U:QF w.heap.size w2 (Value.slice W a.args.length L) a.args:=yt (gx u (by decide) r F) h.size;have E:=J.mono fun _ _ q=>gx u (by decide) q F))
     go_roundw
     ·exact⟨g++[a],k+1,k+1,m,d,_,by go_num,rfl,by go_num,zg _,by omega,by omega,by omega,by omega,by omega,by simp;omega,by omega,p.trans O,by rw[yq];exact T,E.snoc U,C⟩
     ·simp[intOf];omega
  ·have R:m=0:=by omega
   have HF:Hid (yG l (l.length+1) 0 0 0=some g):=by rw[Hid,H.out,R];simp[yG]
   clear H;go_wp2;go_ret2
   exact Of HF h ⟨_,j,t⟩
end
theorem l5(s:ByteArray)(i:Nat):(s.extract i s.size).size=s.size-i:=by simp[ByteArray.size_extract]
theorem o9(s:ByteArray)(i j k:Nat)(b:j<=s.size)(c:i+k<j):QG (s.extract i j) k=QG s (i+k):=by
 have a:k<(s.extract i j).size:=by rw[ByteArray.size_extract];omega
 rw[qn a,qn (by omega:i+k<s.size)];simp[ByteArray.getElem_extract]
theorem r7(s:ByteArray)(i k:Nat):QG (s.extract i s.size) k=QG s (i+k):=by
 by_cases h:i+k<s.size
 ·exact o9 s i s.size k (zg _) h
 ·rw[n6 h,n6 (by rw[l5];omega)]
theorem Em(p:Int->Bool)(s:ByteArray)(i:Nat):∀(n j:Nat),s.size-i-j<=n->yA p (s.extract i s.size) j+i=yA p s (i+j):=by
 intro n;induction n with
 |zero=>intro j b;rw[gS (by rw[l5];omega),gS (by omega)];omega
 |succ n c=>
  intro j b;by_cases h:i+j<s.size
  ·cases a:p (QG s (i+j)) with
   |true=>rw[lJ (by rw[l5];omega) (by rw[r7];exact a),lJ h a,c (j+1) (by omega)];rfl
   |false=>rw[mS (by rw[r7];exact a),mS a];omega
  ·rw[gS (by rw[l5];omega),gS h];omega
theorem MP(s:ByteArray)(i:Nat)(k:Int):yi (s.extract i s.size) 0 k+i=yi s i k:=by
 unfold yi;have a:=Em Rf s i _ 0 (zg _);have b:=Em yH s i _ 0 (zg _);simp only[vc] at a b;repeat' split
 all_goals omega
theorem IV(s:ByteArray)(i:Nat):xd (s.extract i s.size)+i=yi s i (xb (QG s i) (QG s (i+1))):=by
 unfold xd;rw[r7,r7,MP];rfl
theorem iV(s:ByteArray)(i a b x y:Nat)(c:i+a=x)(d:min (i+b) s.size=y):(s.extract i s.size).extract a b=s.extract x y:=by
 rw[ByteArray.extract_extract,c,d]
theorem Hg(s:ByteArray)(i:Nat):yi s i 0=i:=by simp[yi]
theorem Kw(s:ByteArray):∀(n i:Nat),i<=s.size->s.size-i<=n->xh n (s.extract i s.size)=(QK n s i).map (·.map Prod.snd):=by
 intro n;induction n with
 |zero=>intro i o m;rw[eE (by rw[l5];omega),p7 (by omega)];rfl
 |succ n g=>
  intro i o m;by_cases h:i<s.size
  ·have e:0<(s.extract i s.size).size:=by rw[l5];omega
   have a:=r7 s i 0;cases b:qu (QG s i) with
   |true=>
    rw[E4 e (by rw[a];exact b),tV h b,←g (i+1) (by omega) (by omega),iV s i 1 _ (i+1) s.size rfl (by rw[l5];omega)]
   |false=>
    have j:=IV s i;generalize d:xb (QG s i) (QG s (i+1))=k at j;by_cases c:k=0
    ·subst c;rw[Hg] at j;rw[ot e (by rw[a];exact b) (zf (by omega)),tI h b d];rfl
    ·have q:=ri s i k h d c;by_cases f:6<yi s i k-i
     ·rw[ot e (by rw[a];exact b) (zb (by omega)),sT h b d f];rfl
     ·rw[DK e (by rw[a];exact b) (by omega) (by omega),wy h b d c f];have l:(s.extract i s.size).extract 0 (xd (s.extract i s.size))=s.extract i (yi s i k):=iV s i _ _ _ _ rfl (by omega);have p:(s.extract i s.size).extract (xd (s.extract i s.size)) (s.extract i s.size).size=s.extract (yi s i k) s.size:=iV s i _ _ _ _ (by omega) (by rw[l5];omega);rw[l,p,g _ (by omega) (by omega),Option.map_map,Option.map_map];rfl
  ·rw[eE (by rw[l5];omega),p7 h];rfl
theorem ra(s:ByteArray):xh s.size s=(QI s).map (·.map Prod.snd):=by
 have h:=Kw s s.size 0 (by omega) (by omega);rwa [show s.extract 0 s.size=s by simp] at h
section
variable {t:ByteArray}
theorem iK(t:ByteArray)(i:Nat):QG t i=((t.toList[i]?.map fun b=>(b.toNat:Int)).getD 0):=by
 rw[lM];by_cases h:i<t.size
 ·rw[qn h,yp (by simpa using h)];rfl
 ·rw[n6 h,kV (by simpa using h)];rfl
theorem ia(t:ByteArray):t.toList.length=t.size:=by rw[lM];simp
theorem JQ(h:t.size=1)(c:UInt8):(t.toList == [c])=(QG t 0 == (c.toNat:Int)):=by
 have b:=(ia t).trans h;rw[iK];revert b
 generalize t.toList=l;intro b;match l,b with
 |[a],_=>
  by_cases d:a=c
  ·subst d;simp
  ·have:a.toNat≠c.toNat:=fun h=>d (UInt8.toNat_inj.1 h);rw[show([a] == [c])=false by simpa using d];simp;omega
theorem MX{c:UInt8}{r:List UInt8}(h:QG t 0≠(c.toNat:Int)):(t.toList == c::r)=false:=by
 rw[beq_eq_false_iff_ne];intro a;apply h;rw[iK,a];rfl
structure hU (x:QC):Prop where
 n:(x.1 == 1)=yN (QG x.2 0)
 t:RA x.1=Rf (QG x.2 0)
 k4:(x.1 == 4)=(x.2.toList == [40])
 k5:(x.1 == 5)=(x.2.toList == [41])
 k6:(x.1 == 6)=(x.2.toList == [44])
 k7:(x.1 == 7)=(x.2.toList == [46])
 k8:(x.1 == 8)=(x.2.toList == [33])
 k9:(x.1 == 9)=(x.2.toList == [58,45])
theorem LW(h:Rf (QG t 0)=true)(c:UInt8)(a:Rf (c.toNat:Int)=false)(r:List UInt8):(t.toList == c::r)=false:=by
 apply MX;intro b;rw[b,a] at h;exact zC h (by simp)
theorem iG{k:Int}(h:Rf (QG t 0)=true)(a:k=1∨k=2∨k=3)(b:(k == 1)=yN (QG t 0)):hU (k,t):=by
 refine⟨b,?_,?_,?_,?_,?_,?_,?_⟩
 ·rw[h];rcases a with h|h|h<;>subst h<;>rfl
 all_goals
  show _=(t.toList == _::_);rw[LW h _ (by decide)];rcases a with h|h|h<;>subst h<;>rfl
theorem Ng(h:t.size=2)(c:QG t 0=58)(d:QG t 1=45):hU (9,t):=by
 have e:t.toList=[58,45]:=by
  have f:=(ia t).trans h;rw[iK] at c d;revert f c d
  generalize t.toList=l;intro c d f;match l,f,c,d with
  |[a,b],_,c,d=>
   have c:(a.toNat:Int)=58:=c;have d:(b.toNat:Int)=45:=d;have i:a=58:=UInt8.toNat_inj.1 (by simpa using(by omega:a.toNat=58));have g:b=45:=UInt8.toNat_inj.1 (by simpa using(by omega:b.toNat=45));rw[i,g]
 constructor<;>(try rw[c])<;>(try (show _=(t.toList == _);rw[e]))<;>rfl
theorem Mn{k c:Int}(e:t.size=1)(d:QG t 0=c)(a:dC c=k)(g:k≠0):hU (k,t):=by
 have b:c=40∨c=41∨c=44∨c=46∨c=33:=by unfold dC at a;(repeat' split at a)<;>omega
 have f:(t.toList == [58,45])=false:=by
  rw[beq_eq_false_iff_ne];intro i;have:=ia t;rw[i,e] at this;simp at this
 constructor
 case n=>show _=yN (QG t 0);rw[d];rcases b with h|h|h|h|h<;>subst h<;>subst a<;>rfl
 case t=>show _=Rf (QG t 0);rw[d];rcases b with h|h|h|h|h<;>subst h<;>subst a<;>rfl
 case k9=>show _=(t.toList == _);rw[f];rcases b with h|h|h|h|h<;>subst h<;>subst a<;>rfl
 all_goals
  show _=(t.toList == _);rw[JQ e,d];rcases b with h|h|h|h|h<;>subst h<;>subst a<;>rfl
theorem Ku(s:ByteArray)(i:Nat)(k:Int)(h:i<s.size)(b:xb (QG s i) (QG s (i+1))=k)(d:k≠0):hU (k,s.extract i (yi s i k))/\0<(s.extract i (yi s i k)).size:=by
 have j:=ri s i k h b d;have g:(s.extract i (yi s i k)).size=yi s i k-i:=by rw[ByteArray.size_extract];omega
 refine⟨?_,by omega⟩;have a:QG (s.extract i (yi s i k)) 0=QG s i:=o9 s i _ 0 j.2 (by omega);have f:=fun(o:i+1<yi s i k)=>o9 s i _ 1 j.2 o;unfold xb at b;split at b
 ·rename_i c;subst b;exact iG (by rw[a];simp[Rf,c]) (zf rfl) (by rw[a,c];rfl)
 ·rename_i e;split at b
  ·rename_i c;subst b;exact iG (by rw[a];simp[Rf,c]) (zb (zf rfl)) (by rw[a];simp[e])
  ·rename_i p;split at b
   ·rename_i c;subst b;exact iG (by rw[a];simp[Rf,c]) (zb (zb rfl)) (by rw[a];simp[e])
   ·split at b
    ·rename_i n c;subst b;have q:yi s i 9=i+2:=by simp[yi]
     exact Ng (by rw[g,q];omega) (by rw[a];exact c.1) (by rw[f (by omega)];exact c.2)
    ·have l:yi s i k=i+1:=by
      have m:k≠9/\k≠1/\k≠2/\k≠3:=by subst b;unfold dC;(repeat' split)<;>simp
      simp[yi,d,m]
     exact Mn (by rw[g,l];omega) a b d
theorem Mx(s:ByteArray):∀(n i:Nat) (l:List QC),QK n s i=some l->∀x∈l,hU x/\0<x.2.size:=by
 intro n;induction n with
 |zero=>intro i l h;simp[QK] at h;subst h;simp
 |succ n g=>
  intro i l h;by_cases b:i<s.size
  ·cases c:qu (QG s i) with
   |true=>rw[tV b c] at h;exact g _ _ h
   |false=>
    generalize d:xb (QG s i) (QG s (i+1))=k;by_cases a:k=0
    ·subst a;rw[tI b c d] at h;exact zC h (by simp)
    ·by_cases f:6<yi s i k-i
     ·rw[sT b c d f] at h;exact zC h (by simp)
     ·rw[wy b c d a f] at h;obtain⟨r,j,rfl⟩:=vM.1 h;intro x e;rcases zx.1 e with rfl|e
      ·exact Ku s i k b d a
      ·exact g _ _ j x e
  ·rw[p7 b] at h;simp at h;subst h;simp
theorem p5{s:ByteArray}{l:List QC}(h:QI s=some l):∀x∈l,hU x/\0<x.2.size:=Mx s _ _ l h
end
end Go.Proofs.YteampbddflhngaaGreat
