import Derived.Test.YteampbddflhngaaGreatX06
namespace Go.Proofs.YteampbddflhngaaGreat
set_option linter.all false
set_option maxRecDepth 100000
set_option maxHeartbeats 2000000
section
open Go.Proofs.Tryz Go.RowKit
def QN(c:Int)(s:ByteArray):Bool:=s.data.toList.any fun b=>(b.toNat:Int) == c
theorem mR(c:Int)(s:ByteArray)(w:World)(hs:s.size<=1000):
  Calls prog 105 #[.int .u8 c,.string s] w fun e m=>e=.returned (.bool (QN c s))/\m=w:=by
 go_enter func105,ntmps105;go_wp2;go_loop [5] (fun i=>∃k:Nat,k<=s.size/\i=.int .i64 k/\Hid (QN c s=(s.data.toList.drop k).any fun b=>(b.toNat:Int) == c)) (fun i=>s.size-(intOf i).toNat)
 case atStart=>exact⟨0,zx _,rfl,rfl⟩
 case round=>
  obtain⟨k,n,rfl,H⟩:=hrel;by_cases f:k<s.size
  ·have g:k<s.data.toList.length:=by rw[mM];exact f
   have a:=tW s.data.toList (fun b=>(b.toNat:Int) == c) k g;have h:s.data.toList[k]=s[k]:=rfl;rw[h] at a;have l:Hid (QN c s=(((s[k].toNat:Int) == c)||(s.data.toList.drop (k+1)).any fun b=>(b.toNat:Int) == c)):=by rw[Hid,H.out,a]
   cases j:((s[k].toNat:Int) == c) with
   |true=>
    have d:Hid (QN c s=true):=by rw[Hid,l.out,j];rfl
    go_wp2;go_ret;exact⟨by rw[d.out];rfl,rfl⟩
   |false=>
    have d:Hid (QN c s=(s.data.toList.drop (k+1)).any fun b=>(b.toNat:Int) == c):=by rw[Hid,l.out,j];rfl
    go_wp2;go_round
    case rel=>exact⟨k+1,by omega,by go_num,d⟩
    case measure=>simp[intOf];omega
  ·have d:Hid (QN c s=false):=by rw[Hid,H.out,ug (by rw[mM];show s.size<=k;omega)];rfl
   go_wp2;go_ret;exact⟨by rw[d.out];rfl,rfl⟩
theorem mT(p:Int->Bool)(s:ByteArray)(h:(List.range 256).all (fun n=>QN (n:Int) s == p (n:Int))=true)(c:Int)(a:0<=c)(b:c<256):QN c s=p c:=by
 obtain⟨n,rfl⟩:=Int.eq_ofNat_of_zero_le a;have:=lg.1 h n (by simp;omega);simpa using this
def QZ(c:Int):Bool:=c == 40||c == 41||c == 44||c == 46||c == 33
def mn(c:Int):Bool:=yL c||vu c
theorem If(c:Int)(a:0<=c)(b:c<256):QN c {data:=#[32,10]}=vW c:=mT vW _ (by decide +kernel) c a b
theorem FE(c:Int)(a:0<=c)(b:c<256):QN c {data:=#[48,49,50,51,52,53,54,55,56,57]}=yG c:=mT yG _ (by decide +kernel) c a b
theorem Lh(c:Int)(a:0<=c)(b:c<256):QN c {data:=#[97,98,99,100,101,102,103,104,105,106,107,108,109,110,111,112,113,114,115,116,117,118,119,120,121,122]}=yL c:=mT yL _ (by decide +kernel) c a b
theorem LM(c:Int)(a:0<=c)(b:c<256):QN c {data:=#[65,66,67,68,69,70,71,72,73,74,75,76,77,78,79,80,81,82,83,84,85,86,87,88,89,90]}=vu c:=mT vu _ (by decide +kernel) c a b
theorem Kt(c:Int)(a:0<=c)(b:c<256):QN c {data:=#[97,98,99,100,101,102,103,104,105,106,107,108,109,110,111,112,113,114,115,116,117,118,119,120,121,122,65,66,67,68,69,70,71,72,73,74,75,76,77,78,79,80,81,82,83,84,85,86,87,88,89,90]}=mn c:=mT mn _ (by decide +kernel) c a b
theorem I2(c:Int)(a:0<=c)(b:c<256):QN c {data:=#[97,98,99,100,101,102,103,104,105,106,107,108,109,110,111,112,113,114,115,116,117,118,119,120,121,122,65,66,67,68,69,70,71,72,73,74,75,76,77,78,79,80,81,82,83,84,85,86,87,88,89,90,48,49,50,51,52,53,54,55,56,57]}=PW c:=mT PW _ (by decide +kernel) c a b
theorem Il(c:Int)(a:0<=c)(b:c<256):QN c {data:=#[40,41,44,46,33]}=QZ c:=mT QZ _ (by decide +kernel) c a b
theorem pk(c:Int)(w:World)(a:0<=c)(d:c<256):Calls prog 105 #[.int .u8 c,.string {data:=#[32,10]}] w fun e b=>e=.returned (.bool (vW c))/\b=w:=by
 have:=mR c {data:=#[32,10]} w (by decide);rw[If c a d] at this;exact this
theorem lq(c:Int)(w:World)(a:0<=c)(d:c<256):Calls prog 105 #[.int .u8 c,.string {data:=#[48,49,50,51,52,53,54,55,56,57]}] w fun e b=>e=.returned (.bool (yG c))/\b=w:=by
 have:=mR c {data:=#[48,49,50,51,52,53,54,55,56,57]} w (by decide);rw[FE c a d] at this;exact this
theorem Lv(c:Int)(w:World)(a:0<=c)(d:c<256):Calls prog 105 #[.int .u8 c,.string {data:=#[97,98,99,100,101,102,103,104,105,106,107,108,109,110,111,112,113,114,115,116,117,118,119,120,121,122]}] w fun e b=>e=.returned (.bool (yL c))/\b=w:=by
 have:=mR c {data:=#[97,98,99,100,101,102,103,104,105,106,107,108,109,110,111,112,113,114,115,116,117,118,119,120,121,122]} w (by decide);rw[Lh c a d] at this;exact this
theorem Mj(c:Int)(w:World)(a:0<=c)(d:c<256):Calls prog 105 #[.int .u8 c,.string {data:=#[65,66,67,68,69,70,71,72,73,74,75,76,77,78,79,80,81,82,83,84,85,86,87,88,89,90]}] w fun e b=>e=.returned (.bool (vu c))/\b=w:=by
 have:=mR c {data:=#[65,66,67,68,69,70,71,72,73,74,75,76,77,78,79,80,81,82,83,84,85,86,87,88,89,90]} w (by decide);rw[LM c a d] at this;exact this
theorem lC(c:Int)(w:World)(a:0<=c)(d:c<256):Calls prog 105 #[.int .u8 c,.string {data:=#[97,98,99,100,101,102,103,104,105,106,107,108,109,110,111,112,113,114,115,116,117,118,119,120,121,122,65,66,67,68,69,70,71,72,73,74,75,76,77,78,79,80,81,82,83,84,85,86,87,88,89,90]}] w fun e b=>e=.returned (.bool (mn c))/\b=w:=by
 have:=mR c {data:=#[97,98,99,100,101,102,103,104,105,106,107,108,109,110,111,112,113,114,115,116,117,118,119,120,121,122,65,66,67,68,69,70,71,72,73,74,75,76,77,78,79,80,81,82,83,84,85,86,87,88,89,90]} w (by decide);rw[Kt c a d] at this;exact this
theorem fT(c:Int)(w:World)(a:0<=c)(d:c<256):Calls prog 105 #[.int .u8 c,.string {data:=#[97,98,99,100,101,102,103,104,105,106,107,108,109,110,111,112,113,114,115,116,117,118,119,120,121,122,65,66,67,68,69,70,71,72,73,74,75,76,77,78,79,80,81,82,83,84,85,86,87,88,89,90,48,49,50,51,52,53,54,55,56,57]}] w fun e b=>e=.returned (.bool (PW c))/\b=w:=by
 have:=mR c {data:=#[97,98,99,100,101,102,103,104,105,106,107,108,109,110,111,112,113,114,115,116,117,118,119,120,121,122,65,66,67,68,69,70,71,72,73,74,75,76,77,78,79,80,81,82,83,84,85,86,87,88,89,90,48,49,50,51,52,53,54,55,56,57]} w (by decide);rw[I2 c a d] at this;exact this
theorem jZ(c:Int)(w:World)(a:0<=c)(d:c<256):Calls prog 105 #[.int .u8 c,.string {data:=#[40,41,44,46,33]}] w fun e b=>e=.returned (.bool (QZ c))/\b=w:=by
 have:=mR c {data:=#[40,41,44,46,33]} w (by decide);rw[Il c a d] at this;exact this
theorem kx(s:ByteArray)(w:World)(h:0<s.size):
  Calls prog 184 #[.string s] w fun e a=>e=.returned (.bool (yL (P8 s 0)))/\a=w:=by
 have b:=fE s 0;rw[qk h] at b ⊢;go_enter func184,ntmps184;go_wp2_with (first|(go_at_call 105;refine(Lv _ _ (by omega) (by omega)).mono ?_;rintro e a ⟨rfl,rfl⟩))
 go_ret;exact⟨rfl,rfl⟩
theorem tn(s:ByteArray)(w:World)(h:0<s.size):
  Calls prog 154 #[.string s] w fun e a=>e=.returned (.bool (vu (P8 s 0)))/\a=w:=by
 have b:=fE s 0;rw[qk h] at b ⊢;go_enter func154,ntmps154;go_wp2_with (first|(go_at_call 105;refine(Mj _ _ (by omega) (by omega)).mono ?_;rintro e a ⟨rfl,rfl⟩))
 go_ret;exact⟨rfl,rfl⟩
theorem lX(s:ByteArray)(w:World)(h:0<s.size):
  Calls prog 185 #[.string s] w fun e a=>e=.returned (.bool (PW (P8 s 0)))/\a=w:=by
 have b:=fE s 0;rw[qk h] at b ⊢;go_enter func185,ntmps185;go_wp2_with (first|(go_at_call 105;refine(fT _ _ (by omega) (by omega)).mono ?_;rintro e a ⟨rfl,rfl⟩))
 go_ret;exact⟨rfl,rfl⟩
theorem DF(s:ByteArray)(h:1<s.size):((s.extract 0 2).toList == [58,45])=(decide (P8 s 0=58)&&decide (P8 s 1=45)):=by
 rw[lu,qk (by omega:0<s.size),qk h];have d:(s.extract 0 2).data.toList=[s[0],s[1]]:=by
  rw[ByteArray.data_extract,Array.toList_extract];obtain⟨⟨l⟩⟩:=s;match l,h with
  |a::b::r,_=>rfl
 rw[d];have e:∀(x:UInt8) (n:UInt8),(x == n)=decide ((x.toNat:Int)=(n.toNat:Int)):=fun x n=>by
  by_cases c:x=n
  ·subst c;simp
  ·rw[beq_eq_false_iff_ne.2 c];symm;rw[decide_eq_false_iff_not];intro f;exact c (UInt8.toNat_inj.1 (by omega))
 simp only[List.cons_beq_cons,e,List.nil_beq_eq,List.isEmpty_nil,Bool.and_true];rfl
def xg(s:ByteArray):Nat:=ym s 0 (yX (P8 s 0) (P8 s 1))
theorem Gy(s:ByteArray)(w:World)(_:s.size<=500)(f:1<s.size)(a:P8 s 0=58)(b:P8 s 1=45):
  Calls prog 106 #[.string s] w fun e g=>e=.returned (.int .i64 (xg s))/\g=w:=by
 have d:Hid (xg s=2):=by unfold Hid xg;rw[a,b];rfl
 have c:=DF s f;rw[a,b] at c;have h:((s.extract 0 2).toList == [58,45])=true:=c;clear c a b;go_enter func106,ntmps106;go_wp2_with fail
 go_ret;exact⟨by rw[d.out];rfl,rfl⟩
def pQ(s:ByteArray):Prop:=¬1<s.size∨(1<s.size/\((s.extract 0 2).toList == [58,45])=false)
theorem GO(s:ByteArray)(h:¬(P8 s 0=58/\P8 s 1=45)):pQ s:=by
 by_cases a:1<s.size
 ·right;refine⟨a,?_⟩;rw[DF s a];simp only[Bool.and_eq_false_iff,decide_eq_false_iff_not];omega
 ·left;exact a
theorem G0(s:ByteArray)(w:World)(hs:s.size<=500)(g:0<s.size)(b:pQ s)(h:QZ (P8 s 0)=true):
  Calls prog 106 #[.string s] w fun e d=>e=.returned (.int .i64 (1))/\d=w:=by
 have c:=fE s 0;have a:=qk g;rw[a] at c h;clear a;rcases b with b|⟨f,b⟩
 all_goals
  go_enter func106,ntmps106;go_wp2_with (first|(go_at_call 105;refine(jZ _ _ (by omega) (by omega)).mono ?_;rintro e d ⟨rfl,rfl⟩))
  go_ret;exact⟨rfl,rfl⟩
theorem Kk(s:ByteArray)(w:World)(hs:s.size<=500)(o:0<s.size)(i:pQ s)(h:QZ (P8 s 0)=false)(m:yG (P8 s 0)=true):
  Calls prog 106 #[.string s] w fun e a=>e=.returned (.int .i64 (yA yG s 0))/\a=w:=by
 have j:=fE s 0;have l:=qk o;rw[l] at j h m;rcases i with i|⟨n,i⟩
 all_goals
  go_enter func106,ntmps106;go_wp2_with (first|(go_at_call 105;with_reducible refine(jZ _ _ (by omega) (by omega)).mono ?_;rintro e a ⟨rfl,rfl⟩)|(go_at_call 105;with_reducible refine(lq _ _ (by omega) (by omega)).mono ?_;rintro e a ⟨rfl,rfl⟩)|(go_at_call 105;with_reducible refine(lC _ _ (by omega) (by omega)).mono ?_;rintro e a ⟨rfl,rfl⟩)|(go_at_call 105;with_reducible refine(fT _ _ (by omega) (by omega)).mono ?_;rintro e a ⟨rfl,rfl⟩))
  go_loop [3] (fun t=>∃k:Nat,k<=s.size/\t=.int .i64 k/\Hid (yA yG s 0=yA yG s k)) (fun t=>s.size-(intOf t).toNat)
  case atStart=>exact⟨0,zx _,rfl,rfl⟩
  case round=>
   obtain⟨k,p,rfl,H⟩:=hrel;by_cases c:k<s.size
   ·have f:=qk c;have g:=fE s k;cases b:yG (P8 s k) with
    |true=>
     have d:Hid (yA yG s 0=yA yG s (k+1)):=by rw[Hid.out H,lh c b];rfl
     rw[f] at b g;go_wp2_with (first|(go_at_call 105;with_reducible refine(jZ _ _ (by omega) (by omega)).mono ?_;rintro e a ⟨rfl,rfl⟩)|(go_at_call 105;with_reducible refine(lq _ _ (by omega) (by omega)).mono ?_;rintro e a ⟨rfl,rfl⟩)|(go_at_call 105;with_reducible refine(lC _ _ (by omega) (by omega)).mono ?_;rintro e a ⟨rfl,rfl⟩)|(go_at_call 105;with_reducible refine(fT _ _ (by omega) (by omega)).mono ?_;rintro e a ⟨rfl,rfl⟩))
     go_round
     case rel=>exact⟨k+1,by omega,by go_num,d⟩
     case measure=>simp[intOf];omega
    |false=>
     have d:Hid (yA yG s 0=k):=by rw[Hid.out H,mv b];rfl
     rw[f] at b g;go_wp2_with (first|(go_at_call 105;with_reducible refine(jZ _ _ (by omega) (by omega)).mono ?_;rintro e a ⟨rfl,rfl⟩)|(go_at_call 105;with_reducible refine(lq _ _ (by omega) (by omega)).mono ?_;rintro e a ⟨rfl,rfl⟩)|(go_at_call 105;with_reducible refine(lC _ _ (by omega) (by omega)).mono ?_;rintro e a ⟨rfl,rfl⟩)|(go_at_call 105;with_reducible refine(fT _ _ (by omega) (by omega)).mono ?_;rintro e a ⟨rfl,rfl⟩))
     go_ret;exact⟨by rw[Hid.out d];rfl,rfl⟩
   ·have d:Hid (yA yG s 0=k):=by rw[Hid.out H,gY c];rfl
    go_wp2_with (first|(go_at_call 105;with_reducible refine(jZ _ _ (by omega) (by omega)).mono ?_;rintro e a ⟨rfl,rfl⟩)|(go_at_call 105;with_reducible refine(lq _ _ (by omega) (by omega)).mono ?_;rintro e a ⟨rfl,rfl⟩)|(go_at_call 105;with_reducible refine(lC _ _ (by omega) (by omega)).mono ?_;rintro e a ⟨rfl,rfl⟩)|(go_at_call 105;with_reducible refine(fT _ _ (by omega) (by omega)).mono ?_;rintro e a ⟨rfl,rfl⟩))
    go_ret;exact⟨by rw[Hid.out d];rfl,rfl⟩
theorem Ln(s:ByteArray)(w:World)(hs:s.size<=500)(p:0<s.size)(i:pQ s)(h:QZ (P8 s 0)=false)(n:yG (P8 s 0)=false)(m:mn (P8 s 0)=true):
  Calls prog 106 #[.string s] w fun e a=>e=.returned (.int .i64 (yA PW s 0))/\a=w:=by
 have j:=fE s 0;have l:=qk p;rw[l] at j h n m;rcases i with i|⟨o,i⟩
 all_goals
  go_enter func106,ntmps106;go_wp2_with (first|(go_at_call 105;with_reducible refine(jZ _ _ (by omega) (by omega)).mono ?_;rintro e a ⟨rfl,rfl⟩)|(go_at_call 105;with_reducible refine(lq _ _ (by omega) (by omega)).mono ?_;rintro e a ⟨rfl,rfl⟩)|(go_at_call 105;with_reducible refine(lC _ _ (by omega) (by omega)).mono ?_;rintro e a ⟨rfl,rfl⟩)|(go_at_call 105;with_reducible refine(fT _ _ (by omega) (by omega)).mono ?_;rintro e a ⟨rfl,rfl⟩))
  go_loop [3] (fun t=>∃k:Nat,k<=s.size/\t=.int .i64 k/\Hid (yA PW s 0=yA PW s k)) (fun t=>s.size-(intOf t).toNat)
  case atStart=>exact⟨0,zx _,rfl,rfl⟩
  case round=>
   obtain⟨k,q,rfl,H⟩:=hrel;by_cases c:k<s.size
   ·have f:=qk c;have g:=fE s k;cases b:PW (P8 s k) with
    |true=>
     have d:Hid (yA PW s 0=yA PW s (k+1)):=by rw[Hid.out H,lh c b];rfl
     rw[f] at b g;go_wp2_with (first|(go_at_call 105;with_reducible refine(jZ _ _ (by omega) (by omega)).mono ?_;rintro e a ⟨rfl,rfl⟩)|(go_at_call 105;with_reducible refine(lq _ _ (by omega) (by omega)).mono ?_;rintro e a ⟨rfl,rfl⟩)|(go_at_call 105;with_reducible refine(lC _ _ (by omega) (by omega)).mono ?_;rintro e a ⟨rfl,rfl⟩)|(go_at_call 105;with_reducible refine(fT _ _ (by omega) (by omega)).mono ?_;rintro e a ⟨rfl,rfl⟩))
     go_round
     case rel=>exact⟨k+1,by omega,by go_num,d⟩
     case measure=>simp[intOf];omega
    |false=>
     have d:Hid (yA PW s 0=k):=by rw[Hid.out H,mv b];rfl
     rw[f] at b g;go_wp2_with (first|(go_at_call 105;with_reducible refine(jZ _ _ (by omega) (by omega)).mono ?_;rintro e a ⟨rfl,rfl⟩)|(go_at_call 105;with_reducible refine(lq _ _ (by omega) (by omega)).mono ?_;rintro e a ⟨rfl,rfl⟩)|(go_at_call 105;with_reducible refine(lC _ _ (by omega) (by omega)).mono ?_;rintro e a ⟨rfl,rfl⟩)|(go_at_call 105;with_reducible refine(fT _ _ (by omega) (by omega)).mono ?_;rintro e a ⟨rfl,rfl⟩))
     go_ret;exact⟨by rw[Hid.out d];rfl,rfl⟩
   ·have d:Hid (yA PW s 0=k):=by rw[Hid.out H,gY c];rfl
    go_wp2_with (first|(go_at_call 105;with_reducible refine(jZ _ _ (by omega) (by omega)).mono ?_;rintro e a ⟨rfl,rfl⟩)|(go_at_call 105;with_reducible refine(lq _ _ (by omega) (by omega)).mono ?_;rintro e a ⟨rfl,rfl⟩)|(go_at_call 105;with_reducible refine(lC _ _ (by omega) (by omega)).mono ?_;rintro e a ⟨rfl,rfl⟩)|(go_at_call 105;with_reducible refine(fT _ _ (by omega) (by omega)).mono ?_;rintro e a ⟨rfl,rfl⟩))
    go_ret;exact⟨by rw[Hid.out d];rfl,rfl⟩
theorem Fp(s:ByteArray)(w:World)(hs:s.size<=500)(j:0<s.size)(b:pQ s)(h:QZ (P8 s 0)=false)(g:yG (P8 s 0)=false)(f:mn (P8 s 0)=false):
  Calls prog 106 #[.string s] w fun e a=>e=.returned (.int .i64 (0))/\a=w:=by
 have c:=fE s 0;have d:=qk j;rw[d] at c h g f;rcases b with b|⟨i,b⟩
 all_goals
  go_enter func106,ntmps106;go_wp2_with (first|(go_at_call 105;with_reducible refine(jZ _ _ (by omega) (by omega)).mono ?_;rintro e a ⟨rfl,rfl⟩)|(go_at_call 105;with_reducible refine(lq _ _ (by omega) (by omega)).mono ?_;rintro e a ⟨rfl,rfl⟩)|(go_at_call 105;with_reducible refine(lC _ _ (by omega) (by omega)).mono ?_;rintro e a ⟨rfl,rfl⟩)|(go_at_call 105;with_reducible refine(fT _ _ (by omega) (by omega)).mono ?_;rintro e a ⟨rfl,rfl⟩))
  go_ret;exact⟨rfl,rfl⟩
theorem QW(s:ByteArray)(w:World)(hs:s.size<=500)(f:0<s.size):
  Calls prog 106 #[.string s] w fun e k=>e=.returned (.int .i64 (xg s))/\k=w:=by
 by_cases a:P8 s 0=58/\P8 s 1=45
 ·refine Gy s w hs ?_ a.1 a.2;false_or_by_contra;rename_i d;rw[nz d] at a;omega
 ·have d:=GO s a;cases h:QZ (P8 s 0) with
  |true=>
   have:=G0 s w hs f d h;have e:xg s=1:=by
    unfold xg yX;simp only[QZ,dX,beq_iff_eq] at h;rcases h with (((h|h)|h)|h)|h<;>rw[h]<;>rfl
   rw[e];exact this
  |false=>
   have j:gM (P8 s 0)=0:=by
    simp only[QZ,np,beq_eq_false_iff_ne] at h;unfold gM;simp[h]
   cases c:yG (P8 s 0) with
   |true=>
    have:=Kk s w hs f d h c;have e:xg s=yA yG s 0:=by
     have g:yL (P8 s 0)=false:=by simp[yG,yL] at c ⊢;omega
     have i:vu (P8 s 0)=false:=by simp[yG,vu] at c ⊢;omega
     unfold xg yX;simp[g,i,c,ym]
    rw[e];exact this
   |false=>
    cases b:mn (P8 s 0) with
    |true=>
     have:=Ln s w hs f d h c b;have e:xg s=yA PW s 0:=by
      unfold xg yX;simp only[mn,dX] at b;cases g:yL (P8 s 0) with
      |true=>simp[ym]
      |false=>rw[g] at b;simp at b;simp[b,ym]
     rw[e];exact this
    |false=>
     have:=Fp s w hs f d h c b;have e:xg s=0:=by
      simp only[mn,np] at b;unfold xg yX;simp[b.1,b.2,c,a,j,ym]
     rw[e];exact this
end
section
open Go.Proofs.Tryz Go.RowKit
variable {n:Nat}{s:ByteArray}{o:Option (List ByteArray)}
def xa:Nat->ByteArray->Option (List ByteArray)
 |0,_=>some []
 |n+1,s=>if s.size=0 then some [] else if vW (P8 s 0) then xa n (s.extract 1 s.size) else if xg s=0 then none else if 6<xg s then none
  else(xa n (s.extract (xg s) s.size)).map (s.extract 0 (xg s)::·)
theorem wt(h:s.size=0):xa n s=some []:=by cases n<;>simp[xa,h]
theorem B0(h:0<s.size)(a:vW (P8 s 0)=true):xa (n+1) s=xa n (s.extract 1 s.size):=by simp[xa,Nat.ne_of_gt h,a]
theorem iD(h:0<s.size)(b:vW (P8 s 0)=false)(a:xg s=0∨6<xg s):xa (n+1) s=none:=by
 simp only[xa,za (Nat.ne_of_gt h),b];rcases a with a|a
 ·simp[a]
 ·simp[a]
theorem Cr(h:0<s.size)(c:vW (P8 s 0)=false)(a:xg s≠0)(b:¬6<xg s):xa (n+1) s=(xa n (s.extract (xg s) s.size)).map (s.extract 0 (xg s)::·):=by
 simp[xa,Nat.ne_of_gt h,c,a,b]
theorem IV(h:6<xg s):P8 s 0≠58/\QZ (P8 s 0)=false:=by
 unfold xg yX at h;refine⟨fun c=>?_,?_⟩
 ·rw[c] at h;by_cases b:P8 s 1=45
  ·rw[b] at h;simp[yL,vu,yG,ym] at h
  ·simp[yL,vu,yG,ym,b,gM] at h
 ·false_or_by_contra
  rename_i a;simp only[pZ,QZ,dX,beq_iff_eq] at a;rcases a with (((a|a)|a)|a)|a<;>(rw[a] at h;simp[yL,vu,yG,ym,gM] at h)
theorem MO(s:ByteArray)(a:0<s.size):xg s<=s.size:=by
 unfold xg;by_cases h:yX (P8 s 0) (P8 s 1)=0
 ·rw[h];simp[ym]
 ·exact(pC s 0 _ a rfl h).2
def ia(o:Option (List ByteArray))(w:World)(e:Ending)(a:World):Prop:=
 Below w.heap.size w a/\match o with
  |none=>e=.returned (.tuple #[.slice none 0 0,.bool false])
  |some l=>∃v,e=.returned (.tuple #[v,.bool true])/\a.ownsRow w.heap.size 9 1 v l.length (l.map Value.string)
theorem wH{w a:World}(h:Hid (o=none))(c:Below w.heap.size w a):ia o w (.returned (.tuple #[.slice none 0 0,.bool false])) a:=by
 have b:o=none:=h;subst b;exact⟨c,rfl⟩
theorem GP{w a:World}{l:List ByteArray}{v:Value}(h:Hid (o=some l))(d:Below w.heap.size w a)(b:a.ownsRow w.heap.size 9 1 v l.length (l.map Value.string)):ia o w (.returned (.tuple #[v,.bool true])) a:=by
 have c:o=some l:=h;subst c;exact⟨d,v,rfl,b⟩
theorem tJ(s:ByteArray)(w:World)(hs:s.size<=500):
  Calls prog 65 #[.string s] w fun e d=>ia (xa s.size s) w e d:=by
 obtain⟨S,P,A,G,M⟩:=info_parts Po;go_enter func65,ntmps65;go_wp2;go_loopg [0,4] (s.size) (fun n u v wr=>∃(a:ByteArray) (b:List ByteArray) (m:Nat),u=.string a/\a.size<=n/\a.size<=m/\b.length+a.size<=s.size/\Hid (xa s.size s=(xa m a).map (b++·)) ∧
   wr.ownsRow w.heap.size 9 1 v b.length (b.map Value.string)/\Below w.heap.size w wr)
 case atStart=>exact⟨s,[],s.size,rfl,zf _,zf _,by simp,(by simp[Hid]),yI _ _ _ _,zo _ _⟩
 case round=>
  obtain⟨a,b,m,rfl,V,T,N,H,j,g⟩:=hrel;by_cases x:0<a.size
  ·have l:=fE a 0;have f:=qk x;have C:(a.toList == [])=false:=by
    rw[lu,beq_eq_false_iff_ne];intro h;have:a.data.toList.length=a.size:=mM;rw[h] at this;simp at this;omega
   obtain⟨m,rfl⟩:∃R,m=R+1:=⟨m-1,by omega⟩;cases r:vW (P8 a 0) with
   |true=>
    have p:Hid (xa s.size s=(xa m (a.extract 1 a.size)).map (b++·)):=by rw[Hid,H.out,B0 x r]
    have y:(a.extract 1 a.size).size=a.size-1:=by rw[ByteArray.size_extract];omega
    rw[f] at r l;clear H f;go_wp2_with (first|(go_at_call 105;with_reducible refine(pk _ _ (by omega) (by omega)).mono ?_;rintro e d ⟨rfl,rfl⟩))
    go_roundg (a.size-1)
    case measure=>omega
    case rel=>exact⟨_,b,m,rfl,by omega,by omega,by omega,p,j,g⟩
   |false=>
    have i:=Px fun W=>QW a W (by omega) x;have D:=MO a x;by_cases k:xg a=0∨6<xg a
    ·have p:Hid (xa s.size s=none):=by rw[Hid,H.out,iD x r k];rfl
     rcases k with k|k
     ·rw[k] at i;rw[f] at r l;clear H f k D;by_cases c:((a[0].toNat:Int) == 58)=true
      ·go_wp2_with (first|(go_at_call 105;with_reducible refine(pk _ _ (by omega) (by omega)).mono ?_;rintro e d ⟨rfl,rfl⟩)|(go_at_call 105;with_reducible refine(jZ _ _ (by omega) (by omega)).mono ?_;rintro e d ⟨rfl,rfl⟩)|(go_at_call 106;refine(i.out _).mono ?_;rintro e d ⟨rfl,rfl⟩))
       go_ret2
       exact wH p g
      ·have q:((a[0].toNat:Int) == 58)=false:=by simpa using c
       clear c;go_wp2_with (first|(go_at_call 105;with_reducible refine(pk _ _ (by omega) (by omega)).mono ?_;rintro e d ⟨rfl,rfl⟩)|(go_at_call 105;with_reducible refine(jZ _ _ (by omega) (by omega)).mono ?_;rintro e d ⟨rfl,rfl⟩)|(go_at_call 106;refine(i.out _).mono ?_;rintro e d ⟨rfl,rfl⟩))
       go_ret2
       exact wH p g
     ·obtain⟨c,L⟩:=IV k;rw[f] at r l c L;have q:((a[0].toNat:Int) == 58)=false:=by simpa using c
      clear H f c;generalize xg a=t at *;have B:((t:Int) == 0)=false:=by rw[beq_eq_false_iff_ne];omega
      go_wp2_with (first|(go_at_call 105;with_reducible refine(pk _ _ (by omega) (by omega)).mono ?_;rintro e d ⟨rfl,rfl⟩)|(go_at_call 105;with_reducible refine(jZ _ _ (by omega) (by omega)).mono ?_;rintro e d ⟨rfl,rfl⟩)|(go_at_call 106;refine(i.out _).mono ?_;rintro e d ⟨rfl,rfl⟩))
      go_ret2
      exact wH p g
    ·have F:xg a≠0:=fun h=>k (zg h);have E:¬6<xg a:=fun h=>k (ze h);have p:Hid (xa s.size s=(xa m (a.extract (xg a) a.size)).map ((b++[a.extract 0 (xg a)])++·)):=by rw[Hid,H.out,Cr x r F E,rm]
     rw[f] at r l;clear H f k;generalize xg a=t at *;have B:((t:Int) == 0)=false:=by rw[beq_eq_false_iff_ne];omega
     have y:(a.extract t a.size).size=a.size-t:=by rw[ByteArray.size_extract];omega
     by_cases c:((a[0].toNat:Int) == 58)=true;rotate_left
     have q:((a[0].toNat:Int) == 58)=false:=by simpa using c
     clear c
     all_goals
      go_wp2_with (first|(go_at_call 105;with_reducible refine(pk _ _ (by omega) (by omega)).mono ?_;rintro e d ⟨rfl,rfl⟩)|(go_at_call 105;with_reducible refine(jZ _ _ (by omega) (by omega)).mono ?_;rintro e d ⟨rfl,rfl⟩)|(go_at_call 106;refine(i.out _).mono ?_;rintro e d ⟨rfl,rfl⟩)|(at_builtin;refine jS _ _ _ _ rfl (.tmp 34) (.tmp 38) 30 rfl w.heap.size 9 S _ 1 16 underlying30 P A G M rfl (by decide) _ _ _ rfl j (zo _ _) _ _ rfl (by simp) rfl (by simp[Value.oneCell']) (by omega) (by omega) g.size ?_;intro X U z J I K Q O;clear I K))
      go_roundg (a.size-1)
      case measure=>omega
      case rel=>exact⟨_,b++[a.extract 0 t],m,rfl,by omega,by omega,by simp;omega,p,by simpa using z,g.trans J⟩
  ·have y:a.size=0:=by omega
   have p:Hid (xa s.size s=some b):=by rw[Hid,H.out,wt y];simp
   have C:(a.toList == [])=true:=by
    rw[lu,beq_iff_eq];exact rf (by rw[mM];exact y)
   clear H;go_wp2_with (first|(go_at_call 105;with_reducible refine(pk _ _ (by omega) (by omega)).mono ?_;rintro e d ⟨rfl,rfl⟩)|(go_at_call 105;with_reducible refine(jZ _ _ (by omega) (by omega)).mono ?_;rintro e d ⟨rfl,rfl⟩)|(go_at_call 106;refine(i.out _).mono ?_;rintro e d ⟨rfl,rfl⟩))
   go_ret2
   exact GP p g j
end
section
open Go.Proofs.Tryz Go.RowKit
variable {w:World}{v:Value}{l:List ByteArray}
def SV(w:World)(v:Value)(l:List ByteArray):Prop:=∃c a,v=.slice c l.length a/\l.length<=a ∧
 ((c=none/\a=0)∨∃b o,c=some ⟨b,o,none⟩/\b<w.heap.size/\∀k (d:k<l.length),w.cell? ⟨b,o+k,none⟩=some (.string l[k]))
theorem SV.of{b:Nat}(h:w.ownsRow b 9 1 v l.length (l.map Value.string)):SV w v l:=by
 have n:=h;obtain⟨_,⟨c,i⟩|⟨g,d,j,c,_,m,o,_⟩⟩:=h
 ·refine⟨none,0,?_,by omega,zg ⟨rfl,rfl⟩⟩;rw[c,i]
 ·refine⟨_,d,c,o,ze ⟨g,0,rfl,(kw.1 m).1,fun k p=>?_⟩⟩;obtain⟨q,f,a,_,_,e⟩:=yC n (by omega);rw[c] at a;simp at a;obtain⟨rfl,_⟩:=a;rw[vF];exact e k _ (by simp[p])
theorem SV.qx(h:SV w v l):∃b a,v=.slice b l.length a:=by obtain⟨b,a,c,_⟩:=h;exact⟨b,a,c⟩
theorem SV.below{g:World}(h:SV w v l)(f:Below w.heap.size w g):SV g v l:=by
 obtain⟨q,d,j,n,c⟩:=h;refine⟨q,d,j,n,?_⟩;rcases c with c|⟨b,o,m,a,e⟩
 ·exact zg c
 ·exact ze ⟨b,o,m,xG a f.size,fun k i=>(f.cell (p:=⟨b,o+k,none⟩) a).trans (e k i)⟩
theorem SV.cell{w:World}{f:Option Addr}{n cap:Nat}{l:List ByteArray}(h:SV w (.slice f n cap) l)(k:Nat)(m:k<l.length):∃b o,f=some ⟨b,o,none⟩/\b<w.heap.size/\w.cell? ⟨b,o+k,none⟩=some (.string l[k]):=by
 obtain⟨i,g,e,p,d⟩:=h;simp at e;obtain⟨rfl,_,rfl⟩:=e;rcases d with⟨_,d⟩|⟨b,o,j,a,c⟩
 ·omega
 ·exact⟨b,o,j,a,c k m⟩
theorem SV.cells{g:Option Addr}{n cap:Nat}(h:SV w (.slice g n cap) l)(m:0<l.length):∃b o,g=some ⟨b,o,none⟩/\b<w.heap.size/\∀k (q:k<l.length),w.cell? ⟨b,o+k,none⟩=some (.string l[k]):=by
 obtain⟨i,f,e,p,d⟩:=h;simp at e;obtain⟨rfl,_,rfl⟩:=e;rcases d with⟨_,d⟩|⟨b,o,j,a,c⟩
 ·omega
 ·exact⟨b,o,j,a,c⟩
section
variable {P:Program} {ops:Array Oper} {rest:List Oper} {o:Oper} {a:Act} {Q:Exit->Act->World->Prop}
theorem qS(w D:World)(U:o.guard=none)(x:Operand)(t e:TypeId)(lo h:Option Operand)(s:o.op=.slice t x lo h none)
  (M:P.underlying t=some (.slice e)) (A:TypeInfo) (I:P.info? e=some A) (r:P.cellsOf e=1) (v:Value) (l:List ByteArray) (J:a.eval x=v) (H:SV D v l)
  (i j:Nat) (B:lo.map a.eval=none/\i=0∨lo.map a.eval=some (.int .i64 (i:Int))) (y:h.map a.eval=none/\j=l.length∨h.map a.eval=some (.int .i64 (j:Int))) (T:i<=j) (W:j<=l.length) (n:Nat) (S:j-i=n)
  (N:∀f c,SV D (.slice f n c) ((l.drop i).take n)->wpList P ops Q rest (a.put o.dst (.slice f n c)) w):wpList P ops Q (o::rest) a w:=by
 subst S;obtain⟨f,c,rfl,X,O⟩:=H;have V:(j:Int)<=(c:Int):=by omega
 have R:(i:Int)<=(j:Int):=by omega
 have L:(Instr.sliceBounds true l.length c (lo.map a.eval) (h.map a.eval) none).run P w=.ok (i,j,c) w:=by
  rcases B with⟨G,rfl⟩|G<;>rcases y with⟨E,rfl⟩|E<;>rw[G,E]<;>simp[Instr.sliceBounds,run_sliceBound,V,R]
 refine wpList_plain U fun K C=>?_;unfold Oper.wp;have d:((l.drop i).take (j-i)).length=j-i:=by simp;omega
 have q:(sizeOf e).run P w=.ok 1 w:=by rw[←r];simp[sizeOf,typeInfo,Program.cellsOf,I]
 have p:(Instr.sliceAt t (.slice f l.length c) (lo.map a.eval) (h.map a.eval) none).run P w=.ok (.slice (if c=i then f else f.map (·.add (i*1))) (j-i) (c-i)) w:=by
  simp[Instr.sliceAt,run_underlying M,Instr.slice,L,q]
 simp only[execOp,s,J,Option.map_none,p,Sem.run_bind,Result.andThen];simp;refine C _ _ (N _ _ ?_);refine⟨_,_,by rw[d],by rw[d];omega,?_⟩;rcases O with⟨rfl,rfl⟩|⟨b,F,rfl,m,u⟩
 ·left;exact⟨by split<;>rfl,by omega⟩
 ·right;by_cases g:c=i
  ·refine⟨b,F,by rw[zb g],m,fun k z=>?_⟩;rw[d] at z;omega
  ·refine⟨b,F+i,?_,m,fun k z=>?_⟩
   ·rw[za g];simp[Addr.add_lit]
   ·rw[d] at z;rw[Nat.add_assoc,u (i+k) (by omega)];simp
end
theorem ON:prog.cellsOf 9=1:=by kernel_rfl
end
section
open Go.RowKit
variable {lo:Nat}{l:List ByteArray}
def gB(l:List ByteArray)(i:Nat):ByteArray:=l.getD i ByteArray.empty
theorem xu{i:Nat}(h:i<l.length):l[i]=gB l i:=by simp[gB,h]
def Rh(l:List ByteArray)(i:Nat):Bool:=if i%2=0 then PW (P8 (gB l i) 0) else((gB l i).toList == [44])
def uB(l:List ByteArray):Nat->List ByteArray
 |0=>[]
 |i+1=>uB l i++(if 2<=i/\i%2=0 then [gB l i] else [])
theorem tY(l:List ByteArray):∀i,(uB l i).length<=i
 |0=>zf _
 |i+1=>by have:=tY l i;unfold uB;split<;>simp<;>omega
def vK(l:List ByteArray):Nat->Bool
 |0=>true
 |i+1=>vK l i&&(decide (i<2)||Rh l i)
theorem DM{i:Nat}(h:vK l i=false):∀k,i<=k->vK l k=false:=by
 intro k c;induction k with
 |zero=>
  have:i=0:=by omega
  subst this;exact h
 |succ k b=>
  rcases gD k i with a|a
  ·have:i=k+1:=by omega
   subst this;exact h
  ·simp[vK,b a]
def xe(neg:Bool)(l:List ByteArray):Option zj:=
 if l.length=0 then none else if yL (P8 (gB l 0) 0)=false then none else if l.length=1 then some ⟨neg,gB l 0,[]⟩
 else if l.length<4∨l.length%2=1∨((gB l 1).toList == [40])=false∨((gB l (l.length-1)).toList == [41])=false then none
 else if vK l (l.length-1) then some ⟨neg,gB l 0,uB l (l.length-1)⟩ else none
def Qg(l:List ByteArray)(a:Bool):Bool:=decide (0<l.length)&&((gB l 0).toList == [33])&&!a
def jw(l:List ByteArray)(a:Bool):Option zj:=if Qg l a then xe true l.tail else xe false l
def ju(o:Option zj)(w:World)(e:Ending)(d:World):Prop:=
 Below w.heap.size w d/\match o with
  |none=>∃b p g n c,e=.returned (.tuple #[.agg #[.bool b,.string p,.slice g n c],.bool false])
  |some a=>∃f,e=.returned (.tuple #[.agg #[.bool a.neg,.string a.pred,f],.bool true])/\P7 w.heap.size d f a.args
theorem mq{a:Bool}(b:Qg l a=false):¬0<l.length∨(0<l.length/\((gB l 0).toList == [33])=false)∨((0<l.length/\((gB l 0).toList == [33])=true)/\a=true):=by
 by_cases c:0<l.length
 ·right;simp only[Qg,decide_eq_true c,me,Bool.and_eq_false_iff] at b;cases h:((gB l 0).toList == [33]) with
  |false=>exact zg ⟨c,rfl⟩
  |true=>rw[h] at b;simp at b;exact ze ⟨⟨c,rfl⟩,b⟩
 ·exact zg c
end
section
open Go.Proofs.Tryz Go.RowKit
theorem M7(w:World)(v:Value)(L:List ByteArray)(b:Bool)(c:SV w v L)(d:∀y∈L,0<y.size)(i:L.length<=500)(j:Qg L b=false)(g:L.length=0):
  Calls prog 152 #[v,.bool b] w fun e k=>ju none w e k:=by
 have a:=mq j;obtain⟨h,f,rfl⟩:=c.qx;rcases a with a|⟨a,_⟩|⟨⟨a,_⟩,rfl⟩
 ·go_enter func152,ntmps152;go_wp2;exact zK (v:=.tuple #[.agg #[.bool false,.string ByteArray.empty,.slice none 0 0],.bool false]) (by simp[results,results152,go_sem];try rfl) rfl ⟨(by go_grown),_,_,_,_,_,rfl⟩
 ·omega
 ·omega
theorem Lm(w:World)(v:Value)(L:List ByteArray)(c:Bool)(f:SV w v L)(i:∀y∈L,0<y.size)(q:L.length<=500)(p:Qg L c=false)(m:¬L.length=0)(hs:yL (P8 (gB L 0) 0)=false):
  Calls prog 152 #[v,.bool c] w fun e l=>ju none w e l:=by
 have a:=mq p;obtain⟨n,j,rfl⟩:=f.qx;have g:0<(gB L 0).size:=by rw[←xu (by omega:0<L.length)];exact i _ (zv _)
 obtain⟨b,o,rfl,k,h⟩:=f.cells (by omega);have d:=h 0 (by omega);rw[xu (by omega)] at d;rw[uK] at d;rcases a with a|⟨_,a⟩|⟨⟨_,a⟩,rfl⟩
 ·omega
 all_goals
  go_enter func152,ntmps152;go_wp2_with (first|(go_at_call 184;refine(kx _ _ g).mono ?_;rintro e l ⟨rfl,rfl⟩))
  exact zK (v:=.tuple #[.agg #[.bool false,.string ByteArray.empty,.slice none 0 0],.bool false]) (by simp[results,results152,go_sem];try rfl) rfl ⟨(by go_grown),_,_,_,_,_,rfl⟩
theorem Jv(w:World)(v:Value)(L:List ByteArray)(c:Bool)(f:SV w v L)(i:∀y∈L,0<y.size)(r:L.length<=500)(q:Qg L c=false)(n:¬L.length=0)(hs:yL (P8 (gB L 0) 0)=true)(m:L.length=1):
  Calls prog 152 #[v,.bool c] w fun e l=>ju (some ⟨false,gB L 0,[]⟩) w e l:=by
 have a:=mq q;obtain⟨p,j,rfl⟩:=f.qx;have g:0<(gB L 0).size:=by rw[←xu (by omega:0<L.length)];exact i _ (zv _)
 obtain⟨b,o,rfl,k,h⟩:=f.cells (by omega);have d:=h 0 (by omega);rw[xu (by omega)] at d;rw[uK] at d;rcases a with a|⟨_,a⟩|⟨⟨_,a⟩,rfl⟩
 ·omega
 all_goals
  go_enter func152,ntmps152;go_wp2_with (first|(go_at_call 184;refine(kx _ _ g).mono ?_;rintro e l ⟨rfl,rfl⟩))
  exact zK (v:=.tuple #[.agg #[.bool false,.string (gB L 0),.slice none 0 0],.bool true]) (by simp[results,results152,go_sem]) rfl ⟨(by go_grown),_,rfl,P7.nil _⟩
theorem NW(w:World)(v:Value)(L:List ByteArray)(c:Bool)(f:SV w v L)(i:∀y∈L,0<y.size)(s:L.length<=500)(r:Qg L c=false)(p:¬L.length=0)(hs:yL (P8 (gB L 0) 0)=true)(m:¬L.length=1)(n:L.length<4):
  Calls prog 152 #[v,.bool c] w fun e l=>ju none w e l:=by
 have a:=mq r;obtain⟨q,j,rfl⟩:=f.qx;have g:0<(gB L 0).size:=by rw[←xu (by omega:0<L.length)];exact i _ (zv _)
 obtain⟨b,o,rfl,k,h⟩:=f.cells (by omega);have d:=h 0 (by omega);rw[xu (by omega)] at d;rw[uK] at d;rcases a with a|⟨_,a⟩|⟨⟨_,a⟩,rfl⟩
 ·omega
 all_goals
  go_enter func152,ntmps152;go_wp2_with (first|(go_at_call 184;refine(kx _ _ g).mono ?_;rintro e l ⟨rfl,rfl⟩))
  exact zK (v:=.tuple #[.agg #[.bool false,.string (gB L 0),.slice none 0 0],.bool false]) (by simp[results,results152,go_sem];try rfl) rfl ⟨(by go_grown),_,_,_,_,_,rfl⟩
theorem Iu(w:World)(v:Value)(L:List ByteArray)(c:Bool)(f:SV w v L)(i:∀y∈L,0<y.size)(t:L.length<=500)(s:Qg L c=false)(q:¬L.length=0)(hs:yL (P8 (gB L 0) 0)=true)(m:¬L.length=1)(p:¬L.length<4)(n:L.length%2=1):
  Calls prog 152 #[v,.bool c] w fun e l=>ju none w e l:=by
 have a:=mq s;obtain⟨r,j,rfl⟩:=f.qx;have g:0<(gB L 0).size:=by rw[←xu (by omega:0<L.length)];exact i _ (zv _)
 obtain⟨b,o,rfl,k,h⟩:=f.cells (by omega);have d:=h 0 (by omega);rw[xu (by omega)] at d;rw[uK] at d;rcases a with a|⟨_,a⟩|⟨⟨_,a⟩,rfl⟩
 ·omega
 all_goals
  go_enter func152,ntmps152;go_wp2_with (first|(go_at_call 184;refine(kx _ _ g).mono ?_;rintro e l ⟨rfl,rfl⟩))
  exact zK (v:=.tuple #[.agg #[.bool false,.string (gB L 0),.slice none 0 0],.bool false]) (by simp[results,results152,go_sem];try rfl) rfl ⟨(by go_grown),_,_,_,_,_,rfl⟩
theorem FA(w:World)(v:Value)(L:List ByteArray)(c:Bool)(f:SV w v L)(i:∀y∈L,0<y.size)(x:L.length<=500)(r:Qg L c=false)(u:¬L.length=0)(hs:yL (P8 (gB L 0) 0)=true)(n:¬L.length=1)(t:¬L.length<4)(p:¬L.length%2=1)(q:((gB L 1).toList == [40])=false):
  Calls prog 152 #[v,.bool c] w fun e l=>ju none w e l:=by
 have a:=mq r;obtain⟨s,m,rfl⟩:=f.qx;have h:0<(gB L 0).size:=by rw[←xu (by omega:0<L.length)];exact i _ (zv _)
 obtain⟨b,o,rfl,k,d⟩:=f.cells (by omega);have g:=d 0 (by omega);have j:=d 1 (by omega);rw[xu (by omega)] at g j;rw[uK] at g;rcases a with a|⟨_,a⟩|⟨⟨_,a⟩,rfl⟩
 ·omega
 all_goals
  go_enter func152,ntmps152;go_wp2_with (first|(go_at_call 184;refine(kx _ _ h).mono ?_;rintro e l ⟨rfl,rfl⟩))
  exact zK (v:=.tuple #[.agg #[.bool false,.string (gB L 0),.slice none 0 0],.bool false]) (by simp[results,results152,go_sem];try rfl) rfl ⟨(by go_grown),_,_,_,_,_,rfl⟩
theorem Lj(w:World)(v:Value)(L:List ByteArray)(c:Bool)(f:SV w v L)(i:∀y∈L,0<y.size)(A:L.length<=500)(s:Qg L c=false)(z:¬L.length=0)(hs:yL (P8 (gB L 0) 0)=true)(p:¬L.length=1)(x:¬L.length<4)(q:¬L.length%2=1)(r:((gB L 1).toList == [40])=true)(t:((gB L (L.length-1)).toList == [41])=false):
  Calls prog 152 #[v,.bool c] w fun e m=>ju none w e m:=by
 have a:=mq s;obtain⟨u,n,rfl⟩:=f.qx;have h:0<(gB L 0).size:=by rw[←xu (by omega:0<L.length)];exact i _ (zv _)
 obtain⟨b,o,rfl,l,d⟩:=f.cells (by omega);have g:=d 0 (by omega);have k:=d 1 (by omega);have j:=d (L.length-1) (by omega);rw[xu (by omega)] at g k j;rw[uK] at g;rcases a with a|⟨_,a⟩|⟨⟨_,a⟩,rfl⟩
 ·omega
 all_goals
  go_enter func152,ntmps152;go_wp2_with (first|(go_at_call 184;refine(kx _ _ h).mono ?_;rintro e m ⟨rfl,rfl⟩))
  exact zK (v:=.tuple #[.agg #[.bool false,.string (gB L 0),.slice none 0 0],.bool false]) (by simp[results,results152,go_sem];try rfl) rfl ⟨(by go_grown),_,_,_,_,_,rfl⟩
theorem GT(w:World)(v:Value)(x:ByteArray)(L:List ByteArray)(b:SV w v (x::L))(i:∀y∈L,0<y.size)(t:(x.toList == [33])=true)(q:L.length<=500)(p:L.length=0):
  Calls prog 152 #[v,.bool false] w fun e k=>ju none w e k:=by
 obtain⟨r,l,h,m,s⟩:=info_parts Po;obtain⟨o,j,rfl⟩:=b.qx;obtain⟨z,u,rfl,c,a⟩:=b.cells (by simp);have f:=a 0 (by simp);rw[uK,gm] at f;go_enter func152,ntmps152;go_wp2_with (first|(refine qS _ w rfl (.tmp 26) 30 9 (some (.const (.int .i64 1))) none rfl underlying30 r l ON _ (x::L) rfl b 1 (L.length+1) (ze rfl) (zg ⟨rfl,rfl⟩) (by omega) (by simp) L.length (by omega) ?_;intro n g d;simp only[lx,gW,vf] at d))
 exact zK (v:=.tuple #[.agg #[.bool true,.string ByteArray.empty,.slice none 0 0],.bool false]) (by simp[results,results152,go_sem];try rfl) rfl ⟨(by go_grown),_,_,_,_,_,rfl⟩
theorem MM(w:World)(v:Value)(x:ByteArray)(L:List ByteArray)(g:SV w v (x::L))(i:∀y∈L,0<y.size)(E:(x.toList == [33])=true)(B:L.length<=500)(A:¬L.length=0)(hs:yL (P8 (gB L 0) 0)=false):
  Calls prog 152 #[v,.bool false] w fun e m=>ju none w e m:=by
 obtain⟨C,s,p,t,D⟩:=info_parts Po;obtain⟨z,q,rfl⟩:=g.qx;obtain⟨G,F,rfl,j,c⟩:=g.cells (by simp);have k:=c 0 (by simp);rw[uK,gm] at k;have h:0<(gB L 0).size:=by rw[←xu (by omega:0<L.length)];exact i _ (zv _)
 go_enter func152,ntmps152;go_wp2_with (first|(refine qS _ w rfl (.tmp 26) 30 9 (some (.const (.int .i64 1))) none rfl underlying30 C s ON _ (x::L) rfl g 1 (L.length+1) (ze rfl) (zg ⟨rfl,rfl⟩) (by omega) (by simp) L.length (by omega) ?_;intro u n d;simp only[lx,gW,vf] at d;obtain⟨b,o,rfl,l,a⟩:=d.cells (by omega);have f:=a 0 (by omega);rw[xu (by omega)] at f;rw[uK] at f;have r:=Px a;clear a)|(go_at_call 184;refine(kx _ _ h).mono ?_;rintro e m ⟨rfl,rfl⟩))
 exact zK (v:=.tuple #[.agg #[.bool true,.string ByteArray.empty,.slice none 0 0],.bool false]) (by simp[results,results152,go_sem];try rfl) rfl ⟨(by go_grown),_,_,_,_,_,rfl⟩
theorem GX(w:World)(v:Value)(x:ByteArray)(L:List ByteArray)(g:SV w v (x::L))(i:∀y∈L,0<y.size)(F:(x.toList == [33])=true)(C:L.length<=500)(B:¬L.length=0)(hs:yL (P8 (gB L 0) 0)=true)(r:L.length=1):
  Calls prog 152 #[v,.bool false] w fun e m=>ju (some ⟨true,gB L 0,[]⟩) w e m:=by
 obtain⟨D,t,p,u,E⟩:=info_parts Po;obtain⟨A,q,rfl⟩:=g.qx;obtain⟨H,G,rfl,j,c⟩:=g.cells (by simp);have k:=c 0 (by simp);rw[uK,gm] at k;have h:0<(gB L 0).size:=by rw[←xu (by omega:0<L.length)];exact i _ (zv _)
 go_enter func152,ntmps152;go_wp2_with (first|(refine qS _ w rfl (.tmp 26) 30 9 (some (.const (.int .i64 1))) none rfl underlying30 D t ON _ (x::L) rfl g 1 (L.length+1) (ze rfl) (zg ⟨rfl,rfl⟩) (by omega) (by simp) L.length (by omega) ?_;intro z n d;simp only[lx,gW,vf] at d;obtain⟨b,o,rfl,l,a⟩:=d.cells (by omega);have f:=a 0 (by omega);rw[xu (by omega)] at f;rw[uK] at f;have s:=Px a;clear a)|(go_at_call 184;refine(kx _ _ h).mono ?_;rintro e m ⟨rfl,rfl⟩))
 exact zK (v:=.tuple #[.agg #[.bool true,.string (gB L 0),.slice none 0 0],.bool true]) (by simp[results,results152,go_sem]) rfl ⟨(by go_grown),_,rfl,P7.nil _⟩
theorem IU(w:World)(v:Value)(x:ByteArray)(L:List ByteArray)(g:SV w v (x::L))(i:∀y∈L,0<y.size)(G:(x.toList == [33])=true)(D:L.length<=500)(C:¬L.length=0)(hs:yL (P8 (gB L 0) 0)=true)(r:¬L.length=1)(B:L.length<4):
  Calls prog 152 #[v,.bool false] w fun e m=>ju none w e m:=by
 obtain⟨E,t,p,u,F⟩:=info_parts Po;obtain⟨A,q,rfl⟩:=g.qx;obtain⟨I,H,rfl,j,c⟩:=g.cells (by simp);have k:=c 0 (by simp);rw[uK,gm] at k;have h:0<(gB L 0).size:=by rw[←xu (by omega:0<L.length)];exact i _ (zv _)
 go_enter func152,ntmps152;go_wp2_with (first|(refine qS _ w rfl (.tmp 26) 30 9 (some (.const (.int .i64 1))) none rfl underlying30 E t ON _ (x::L) rfl g 1 (L.length+1) (ze rfl) (zg ⟨rfl,rfl⟩) (by omega) (by simp) L.length (by omega) ?_;intro z n d;simp only[lx,gW,vf] at d;obtain⟨b,o,rfl,l,a⟩:=d.cells (by omega);have f:=a 0 (by omega);rw[xu (by omega)] at f;rw[uK] at f;have s:=Px a;clear a)|(go_at_call 184;refine(kx _ _ h).mono ?_;rintro e m ⟨rfl,rfl⟩))
 exact zK (v:=.tuple #[.agg #[.bool true,.string (gB L 0),.slice none 0 0],.bool false]) (by simp[results,results152,go_sem];try rfl) rfl ⟨(by go_grown),_,_,_,_,_,rfl⟩
theorem JN(w:World)(v:Value)(x:ByteArray)(L:List ByteArray)(g:SV w v (x::L))(i:∀y∈L,0<y.size)(H:(x.toList == [33])=true)(E:L.length<=500)(D:¬L.length=0)(hs:yL (P8 (gB L 0) 0)=true)(r:¬L.length=1)(C:¬L.length<4)(s:L.length%2=1):
  Calls prog 152 #[v,.bool false] w fun e m=>ju none w e m:=by
 obtain⟨F,u,p,z,G⟩:=info_parts Po;obtain⟨B,q,rfl⟩:=g.qx;obtain⟨J,I,rfl,j,c⟩:=g.cells (by simp);have k:=c 0 (by simp);rw[uK,gm] at k;have h:0<(gB L 0).size:=by rw[←xu (by omega:0<L.length)];exact i _ (zv _)
 go_enter func152,ntmps152;go_wp2_with (first|(refine qS _ w rfl (.tmp 26) 30 9 (some (.const (.int .i64 1))) none rfl underlying30 F u ON _ (x::L) rfl g 1 (L.length+1) (ze rfl) (zg ⟨rfl,rfl⟩) (by omega) (by simp) L.length (by omega) ?_;intro A n d;simp only[lx,gW,vf] at d;obtain⟨b,o,rfl,l,a⟩:=d.cells (by omega);have f:=a 0 (by omega);rw[xu (by omega)] at f;rw[uK] at f;have t:=Px a;clear a)|(go_at_call 184;refine(kx _ _ h).mono ?_;rintro e m ⟨rfl,rfl⟩))
 exact zK (v:=.tuple #[.agg #[.bool true,.string (gB L 0),.slice none 0 0],.bool false]) (by simp[results,results152,go_sem];try rfl) rfl ⟨(by go_grown),_,_,_,_,_,rfl⟩
theorem KZ(w:World)(v:Value)(x:ByteArray)(L:List ByteArray)(g:SV w v (x::L))(i:∀y∈L,0<y.size)(J:(x.toList == [33])=true)(G:L.length<=500)(F:¬L.length=0)(hs:yL (P8 (gB L 0) 0)=true)(s:¬L.length=1)(E:¬L.length<4)(t:¬L.length%2=1)(u:((gB L 1).toList == [40])=false):
  Calls prog 152 #[v,.bool false] w fun e n=>ju none w e n:=by
 obtain⟨H,A,q,B,I⟩:=info_parts Po;obtain⟨D,r,rfl⟩:=g.qx;obtain⟨M,K,rfl,j,c⟩:=g.cells (by simp);have l:=c 0 (by simp);rw[uK,gm] at l;have h:0<(gB L 0).size:=by rw[←xu (by omega:0<L.length)];exact i _ (zv _)
 go_enter func152,ntmps152;go_wp2_with (first|(refine qS _ w rfl (.tmp 26) 30 9 (some (.const (.int .i64 1))) none rfl underlying30 H A ON _ (x::L) rfl g 1 (L.length+1) (ze rfl) (zg ⟨rfl,rfl⟩) (by omega) (by simp) L.length (by omega) ?_;intro C p d;simp only[lx,gW,vf] at d;obtain⟨b,o,rfl,m,a⟩:=d.cells (by omega);have f:=a 0 (by omega);have k:=a 1 (by omega);rw[xu (by omega)] at f k;rw[uK] at f;have z:=Px a;clear a)|(go_at_call 184;refine(kx _ _ h).mono ?_;rintro e n ⟨rfl,rfl⟩))
 exact zK (v:=.tuple #[.agg #[.bool true,.string (gB L 0),.slice none 0 0],.bool false]) (by simp[results,results152,go_sem];try rfl) rfl ⟨(by go_grown),_,_,_,_,_,rfl⟩
theorem Mr(w:World)(v:Value)(x:ByteArray)(L:List ByteArray)(g:SV w v (x::L))(i:∀y∈L,0<y.size)(M:(x.toList == [33])=true)(I:L.length<=500)(H:¬L.length=0)(hs:yL (P8 (gB L 0) 0)=true)(t:¬L.length=1)(G:¬L.length<4)(u:¬L.length%2=1)(z:((gB L 1).toList == [40])=true)(C:((gB L (L.length-1)).toList == [41])=false):
  Calls prog 152 #[v,.bool false] w fun e p=>ju none w e p:=by
 obtain⟨J,B,r,D,K⟩:=info_parts Po;obtain⟨F,s,rfl⟩:=g.qx;obtain⟨O,N,rfl,j,c⟩:=g.cells (by simp);have m:=c 0 (by simp);rw[uK,gm] at m;have h:0<(gB L 0).size:=by rw[←xu (by omega:0<L.length)];exact i _ (zv _)
 go_enter func152,ntmps152;go_wp2_with (first|(refine qS _ w rfl (.tmp 26) 30 9 (some (.const (.int .i64 1))) none rfl underlying30 J B ON _ (x::L) rfl g 1 (L.length+1) (ze rfl) (zg ⟨rfl,rfl⟩) (by omega) (by simp) L.length (by omega) ?_;intro E q d;simp only[lx,gW,vf] at d;obtain⟨b,o,rfl,n,a⟩:=d.cells (by omega);have f:=a 0 (by omega);have l:=a 1 (by omega);have k:=a (L.length-1) (by omega);rw[xu (by omega)] at f l k;rw[uK] at f;have A:=Px a;clear a)|(go_at_call 184;refine(kx _ _ h).mono ?_;rintro e p ⟨rfl,rfl⟩))
 exact zK (v:=.tuple #[.agg #[.bool true,.string (gB L 0),.slice none 0 0],.bool false]) (by simp[results,results152,go_sem];try rfl) rfl ⟨(by go_grown),_,_,_,_,_,rfl⟩
theorem A6{x:ByteArray}(h:(x.toList == [44])=true):PW (P8 x 0)=false:=by
 rw[beq_iff_eq,lu] at h;obtain⟨⟨l⟩⟩:=x;simp at h;subst h;rfl
theorem Jq(w:World)(v:Value)(L:List ByteArray)(z:Bool)(T:SV w v L)(R:∀y∈L,0<y.size)(a7:L.length<=500)(hb:Qg L z=false)(aw:¬L.length=0)(hs:yL (P8 (gB L 0) 0)=true)(a3:¬L.length=1)(a2:¬L.length<4)(ax:¬L.length%2=1)(C:((gB L 1).toList == [40])=true)(E:((gB L (L.length-1)).toList == [41])=true):
  Calls prog 152 #[v,.bool z] w fun e G=>ju (xe false L) w e G:=by
 obtain⟨i0,hi,M,ad,Y⟩:=info_parts Po;have c:=mq hb;obtain⟨a0,al,rfl⟩:=T.qx;have af:0<(gB L 0).size:=by rw[←xu (by omega:0<L.length)];exact R _ (zv _)
 obtain⟨b,o,rfl,P,f⟩:=T.cells (by omega);have Q:=f 0 (by omega);have ag:=f 1 (by omega);have ac:=f (L.length-1) (by omega);rw[xu (by omega)] at Q ag ac;rw[uK] at Q;have ah:=Px f;clear f;have a8:((L.length:Int) == 0)=false:=by rw[beq_eq_false_iff_ne];omega
 have au:((L.length:Int) == 1)=false:=by rw[beq_eq_false_iff_ne];omega
 have a4:((L.length:Int)%2 == 1)=false:=by rw[beq_eq_false_iff_ne];omega
 rcases c with c|⟨_,c⟩|⟨⟨_,c⟩,rfl⟩
 ·omega
 all_goals
  go_enter func152,ntmps152;go_wp2_with (first|(go_at_call 184;refine(kx _ _ af).mono ?_;rintro e G ⟨rfl,rfl⟩))
  go_loopw [9] (fun i wr=>∃(k:Nat) (av:Value),2<=k/\k<=L.length-1/\i=.int .i64 k/\Hid (vK L k=true)/\Below w.heap.size w wr/\Py wr w.heap.size #[.bool false,.string ByteArray.empty,.slice none 0 0] 90/\Py wr (w.heap.size+1) #[.bool false,.string (gB L 0),av] 90/\wr.ownsRow w.heap.size 9 1 av (uB L k).length ((uB L k).map Value.string)) (fun i _=>L.length-(intOf i).toNat)
  case atStart=>exact⟨2,_,zf _,by omega,rfl,by simp[Hid,vK],(by go_grown),(Py.new w _ _).below zQ,Py.newAt _ _ _ _ (by simp),yI _ _ _ _⟩
  case round=>
   obtain⟨k,av,x,hk,rfl,H,j,s,l,a⟩:=hrel;obtain⟨B,n,rfl⟩:=zs a;obtain⟨ar,ay⟩:=l.rules;obtain⟨A,aq⟩:=s.rules;have ao:=j.size;have ap:=l.lt;have ak:=tY L k;by_cases a1:k<L.length-1
   ·have aa:=(j.cell (p:=⟨b,o+k,none⟩) P).trans (ah.out k (by omega));have a6:b<wr.heap.size:=by omega
    have a5:k<L.length:=by omega
    have g:0<L[k].size:=R _ (zv _);rw[xu (by omega:k<L.length)] at aa g;have F:uB L (k+1)=uB L k++(if 2<=k/\k%2=0 then [gB L k] else []):=rfl;have u:vK L (k+1)=(vK L k&&(decide (k<2)||Rh L k)):=rfl;rw[H.out,decide_eq_false (by omega:¬k<2),me,mX] at u;have t:Hid (Rh L k=false->vK L (L.length-1)=false):=fun h=>DM (i:=k+1) (by rw[u,h]) _ (by omega);unfold Rh at u t;by_cases q:k%2=0
    ·rw[zb q] at u t;rw[zb ⟨x,q⟩] at F;have V:((k:Int)%2 == 0)=true:=by rw[beq_iff_eq];omega
     have ai:((k:Int)%2 == 1)=false:=by rw[beq_eq_false_iff_ne];omega
     have S:=Px F;have D:=Px u;clear F u q;cases I:PW (P8 (gB L k) 0) with
     |false=>
      have K:Hid (xe false L=none):=by unfold Hid xe;rw[za (by omega),hs,za (by simp),za (by omega),za (by rw[C,E];simp;omega),t.out I];simp
      clear t S D;generalize gB L k=U at *;go_wp2_with (first|(go_at_call 185;refine(lX _ _ g).mono ?_;rintro e G ⟨rfl,d⟩;obtain rfl:=d.symm))
      rw[K.out];exact zK (v:=.tuple #[.agg #[.bool false,.string (gB L 0),.slice B (uB L k).length n],.bool false]) (by simp[results,results152,go_sem,A];try rfl) rfl ⟨(by go_grown),_,_,_,_,_,rfl⟩
     |true=>
      rw[I] at D;clear t;generalize gB L k=U at *;generalize W:uB L k=Z at *;clear W;go_wp2_with (first|(go_at_call 185;refine(lX _ _ g).mono ?_;rintro e G ⟨rfl,d⟩;obtain rfl:=d.symm))
      go_region_law (first|(refine oy wr _ [.string U] 9 rfl (.tmp 103) (.tmp 108) 30 rfl w.heap.size 9 i0 _ 1 16 underlying30 hi M ad Y rfl (by decide) _ _ _ (by simp[Act.eval]) a (by exact(by go_grown)) wr.heap.size 1 (by simp[Act.eval]) (by exact Py.drew (Py.newAt _ _ _ _ rfl)) rfl (by simp[Value.oneCell']) (by omega) (by omega) j.size ?_;intro v' w2 O ae x an;obtain⟨X,N,rfl⟩:=zs O;have m:=Py.keep (Py.drew (l.below zQ)) (fV a l (by decide)) x;have J:=Py.keep (Py.drew (s.below zQ)) (fV a s (by decide)) x;obtain⟨am,aj⟩:=m.rules))
      all_goals
       go_wp2;go_roundw
       case rel=>exact⟨k+1,_,by omega,by omega,by go_num,D,(j.trans ae).setCell (by simp) _,J.set_ne (by omega) _ _,m.set 2 _,by rw[S.out];have:=xK O ((PB.refl (w.heap.size+1) w2).setCell 2 (.slice X (Z.length+1) N)) m (by decide);simpa using this⟩
       case measure=>simp[intOf];omega
    ·rw[za q] at u t;rw[za (by omega),qE] at F;have V:((k:Int)%2 == 0)=false:=by rw[beq_eq_false_iff_ne];omega
     have ai:((k:Int)%2 == 1)=true:=by rw[beq_iff_eq];omega
     have S:=Px F;have D:=Px u;clear F u q;cases I:((gB L k).toList == [44]) with
     |false=>
      have K:Hid (xe false L=none):=by unfold Hid xe;rw[za (by omega),hs,za (by simp),za (by omega),za (by rw[C,E];simp;omega),t.out I];simp
      clear t S D;generalize gB L k=U at *;go_wp2_with (first|(go_at_call 185;refine(lX _ _ g).mono ?_;rintro e G ⟨rfl,d⟩;obtain rfl:=d.symm))
      rw[K.out];exact zK (v:=.tuple #[.agg #[.bool false,.string (gB L 0),.slice B (uB L k).length n],.bool false]) (by simp[results,results152,go_sem,A];try rfl) rfl ⟨(by go_grown),_,_,_,_,_,rfl⟩
     |true=>
      rw[I] at D;have az:=A6 I;clear t;generalize gB L k=U at *;go_wp2_with (first|(go_at_call 185;refine(lX _ _ g).mono ?_;rintro e G ⟨rfl,d⟩;obtain rfl:=d.symm))
      go_roundw
      case rel=>exact⟨k+1,_,by omega,by omega,by go_num,D,j,s,l,by rw[S.out];exact a⟩
      case measure=>simp[intOf];omega
   ·have ab:k=L.length-1:=by omega
    have K:Hid (xe false L=some ⟨false,gB L 0,uB L k⟩):=by unfold Hid xe;rw[za (by omega),hs,za (by simp),za (by omega),za (by rw[C,E];simp;omega),←ab,H.out];simp
    clear H;generalize uB L k=Z at *;go_wp2;rw[K.out];exact zK (v:=.tuple #[.agg #[.bool false,.string (gB L 0),.slice B Z.length n],.bool true]) (by simp[results,results152,go_sem,A]) rfl ⟨(by go_grown),_,rfl,xK (r:=w.heap.size) a (by repeat'(first|with_reducible(first|apply xR|assumption|apply xN|apply xA|apply xD|apply xS|apply xT)|go_size)) s (by decide)⟩
theorem Fu(w:World)(v:Value)(x:ByteArray)(L:List ByteArray)(hv:SV w v (x::L))(R:∀y∈L,0<y.size)(hx:(x.toList == [33])=true)(aB:L.length<=500)(az:¬L.length=0)(hs:yL (P8 (gB L 0) 0)=true)(a7:¬L.length=1)(a6:¬L.length<4)(a0:¬L.length%2=1)(C:((gB L 1).toList == [40])=true)(E:((gB L (L.length-1)).toList == [41])=true):
  Calls prog 152 #[v,.bool false] w fun e G=>ju (xe true L) w e G:=by
 obtain⟨i0,hi,M,ad,Y⟩:=info_parts Po;obtain⟨a5,ar,rfl⟩:=hv.qx;obtain⟨b1,o1,rfl,aj,z⟩:=hv.cells (by simp);have ah:=z 0 (by simp);rw[uK,gm] at ah;clear z;have af:0<(gB L 0).size:=by rw[←xu (by omega:0<L.length)];exact R _ (zv _)
 have aC:((L.length:Int) == 0)=false:=by rw[beq_eq_false_iff_ne];omega
 have ay:((L.length:Int) == 1)=false:=by rw[beq_eq_false_iff_ne];omega
 have a8:((L.length:Int)%2 == 1)=false:=by rw[beq_eq_false_iff_ne];omega
 go_enter func152,ntmps152;go_wp2_with (first|(refine qS _ w rfl (.tmp 26) 30 9 (some (.const (.int .i64 1))) none rfl underlying30 i0 hi ON _ (x::L) rfl hv 1 (L.length+1) (ze rfl) (zg ⟨rfl,rfl⟩) (by omega) (by simp) L.length (by omega) ?_;intro a3 an T;simp only[lx,gW,vf] at T;obtain⟨b,o,rfl,P,d⟩:=T.cells (by omega);have Q:=d 0 (by omega);have ag:=d 1 (by omega);have ac:=d (L.length-1) (by omega);rw[xu (by omega)] at Q ag ac;rw[uK] at Q;have ai:=Px d;clear d)|(go_at_call 184;refine(kx _ _ af).mono ?_;rintro e G ⟨rfl,rfl⟩))
 go_loopw [9] (fun i wr=>∃(k:Nat) (av:Value),2<=k/\k<=L.length-1/\i=.int .i64 k/\Hid (vK L k=true)/\Below w.heap.size w wr/\Py wr w.heap.size #[.bool false,.string ByteArray.empty,.slice none 0 0] 90/\Py wr (w.heap.size+1) #[.bool true,.string (gB L 0),av] 90/\wr.ownsRow w.heap.size 9 1 av (uB L k).length ((uB L k).map Value.string)) (fun i _=>L.length-(intOf i).toNat)
 case atStart=>exact⟨2,_,zf _,by omega,rfl,by simp[Hid,vK],(by go_grown),(Py.new w _ _).below zQ,Py.newAt _ _ _ _ (by simp),yI _ _ _ _⟩
 case round=>
  obtain⟨k,av,u,hk,rfl,H,g,q,j,a⟩:=hrel;obtain⟨B,m,rfl⟩:=zs a;obtain⟨ax,a1⟩:=j.rules;obtain⟨A,aw⟩:=q.rules;have aq:=g.size;have au:=j.lt;have am:=tY L k;by_cases a4:k<L.length-1
  ·have aa:=(g.cell (p:=⟨b,o+k,none⟩) P).trans (ai.out k (by omega));have aA:b<wr.heap.size:=by omega
   have a9:k<L.length:=by omega
   have f:0<L[k].size:=R _ (zv _);rw[xu (by omega:k<L.length)] at aa f;have F:uB L (k+1)=uB L k++(if 2<=k/\k%2=0 then [gB L k] else []):=rfl;have t:vK L (k+1)=(vK L k&&(decide (k<2)||Rh L k)):=rfl;rw[H.out,decide_eq_false (by omega:¬k<2),me,mX] at t;have s:Hid (Rh L k=false->vK L (L.length-1)=false):=fun h=>DM (i:=k+1) (by rw[t,h]) _ (by omega);unfold Rh at t s;by_cases n:k%2=0
   ·rw[zb n] at t s;rw[zb ⟨u,n⟩] at F;have V:((k:Int)%2 == 0)=true:=by rw[beq_iff_eq];omega
    have ak:((k:Int)%2 == 1)=false:=by rw[beq_eq_false_iff_ne];omega
    have S:=Px F;have D:=Px t;clear F t n;cases I:PW (P8 (gB L k) 0) with
    |false=>
     have K:Hid (xe true L=none):=by unfold Hid xe;rw[za (by omega),hs,za (by simp),za (by omega),za (by rw[C,E];simp;omega),s.out I];simp
     clear s S D;generalize gB L k=U at *;go_wp2_with (first|(go_at_call 185;refine(lX _ _ f).mono ?_;rintro e G ⟨rfl,c⟩;obtain rfl:=c.symm))
     rw[K.out];exact zK (v:=.tuple #[.agg #[.bool true,.string (gB L 0),.slice B (uB L k).length m],.bool false]) (by simp[results,results152,go_sem,A];try rfl) rfl ⟨(by go_grown),_,_,_,_,_,rfl⟩
    |true=>
     rw[I] at D;clear s;generalize gB L k=U at *;generalize W:uB L k=Z at *;clear W;go_wp2_with (first|(go_at_call 185;refine(lX _ _ f).mono ?_;rintro e G ⟨rfl,c⟩;obtain rfl:=c.symm))
     go_region_law (first|(refine oy wr _ [.string U] 9 rfl (.tmp 103) (.tmp 108) 30 rfl w.heap.size 9 i0 _ 1 16 underlying30 hi M ad Y rfl (by decide) _ _ _ (by simp[Act.eval]) a (by exact(by go_grown)) wr.heap.size 1 (by simp[Act.eval]) (by exact Py.drew (Py.newAt _ _ _ _ rfl)) rfl (by simp[Value.oneCell']) (by omega) (by omega) g.size ?_;intro v' w2 O ae u ap;obtain⟨X,N,rfl⟩:=zs O;have l:=Py.keep (Py.drew (j.below zQ)) (fV a j (by decide)) u;have J:=Py.keep (Py.drew (q.below zQ)) (fV a q (by decide)) u;obtain⟨ao,al⟩:=l.rules))
     all_goals
      go_wp2;go_roundw
      case rel=>exact⟨k+1,_,by omega,by omega,by go_num,D,(g.trans ae).setCell (by simp) _,J.set_ne (by omega) _ _,l.set 2 _,by rw[S.out];have:=xK O ((PB.refl (w.heap.size+1) w2).setCell 2 (.slice X (Z.length+1) N)) l (by decide);simpa using this⟩
      case measure=>simp[intOf];omega
   ·rw[za n] at t s;rw[za (by omega),qE] at F;have V:((k:Int)%2 == 0)=false:=by rw[beq_eq_false_iff_ne];omega
    have ak:((k:Int)%2 == 1)=true:=by rw[beq_iff_eq];omega
    have S:=Px F;have D:=Px t;clear F t n;cases I:((gB L k).toList == [44]) with
    |false=>
     have K:Hid (xe true L=none):=by unfold Hid xe;rw[za (by omega),hs,za (by simp),za (by omega),za (by rw[C,E];simp;omega),s.out I];simp
     clear s S D;generalize gB L k=U at *;go_wp2_with (first|(go_at_call 185;refine(lX _ _ f).mono ?_;rintro e G ⟨rfl,c⟩;obtain rfl:=c.symm))
     rw[K.out];exact zK (v:=.tuple #[.agg #[.bool true,.string (gB L 0),.slice B (uB L k).length m],.bool false]) (by simp[results,results152,go_sem,A];try rfl) rfl ⟨(by go_grown),_,_,_,_,_,rfl⟩
    |true=>
     rw[I] at D;have a2:=A6 I;clear s;generalize gB L k=U at *;go_wp2_with (first|(go_at_call 185;refine(lX _ _ f).mono ?_;rintro e G ⟨rfl,c⟩;obtain rfl:=c.symm))
     go_roundw
     case rel=>exact⟨k+1,_,by omega,by omega,by go_num,D,g,q,j,by rw[S.out];exact a⟩
     case measure=>simp[intOf];omega
  ·have ab:k=L.length-1:=by omega
   have K:Hid (xe true L=some ⟨true,gB L 0,uB L k⟩):=by unfold Hid xe;rw[za (by omega),hs,za (by simp),za (by omega),za (by rw[C,E];simp;omega),←ab,H.out];simp
   clear H;generalize uB L k=Z at *;go_wp2;rw[K.out];exact zK (v:=.tuple #[.agg #[.bool true,.string (gB L 0),.slice B Z.length m],.bool true]) (by simp[results,results152,go_sem,A]) rfl ⟨(by go_grown),_,rfl,xK (r:=w.heap.size) a (by repeat'(first|with_reducible(first|apply xR|assumption|apply xN|apply xA|apply xD|apply xS|apply xT)|go_size)) q (by decide)⟩
end
section
variable {l:List ByteArray}
def yD(l:List ByteArray):Nat->Nat->Int->Nat->Option (List zj)
 |0,_,_,_=>some []
 |n+1,b,d,i=>
  if i<l.length then
   if ((gB l i).toList == [40]) then yD l n b (d+1) (i+1)
   else if ((gB l i).toList == [41]) then yD l n b (d-1) (i+1)
   else if ((gB l i).toList == [44])=false∨0<d then yD l n b d (i+1)
   else match jw ((l.drop b).take (i-b)) false with
    |none=>none
    |some a=>(yD l n (i+1) d (i+1)).map (a::·)
  else match jw ((l.drop b).take (i-b)) false with
   |none=>none
   |some a=>some [a]
theorem s40{x:ByteArray}(h:(x.toList == [40])=true):(x.toList == [41])=false/\(x.toList == [44])=false:=by rw[beq_iff_eq] at h;rw[h];exact⟨rfl,rfl⟩
theorem s41{x:ByteArray}(h:(x.toList == [41])=true):(x.toList == [40])=false/\(x.toList == [44])=false:=by rw[beq_iff_eq] at h;rw[h];exact⟨rfl,rfl⟩
def xB:List ByteArray->Nat
 |[]=>0
 |x::r=>if (x.toList == [58,45]) then 0 else xB r+1
theorem Dl:∀l,xB l<=l.length
 |[]=>zf _
 |x::r=>by have:=Dl r;unfold xB;split<;>simp<;>omega
theorem MD{j:Nat}(a:j<l.length)(h:((gB l j).toList == [58,45])=false):xB (l.drop j)=xB (l.drop (j+1))+1:=by
 rw[xk a,xB,xu a,h];rfl
theorem NN{j:Nat}(a:j<l.length)(h:((gB l j).toList == [58,45])=true):xB (l.drop j)=0:=by
 rw[xk a,xB,xu a,h];rfl
def jL(l:List ByteArray):Option zc:=
 match jw (l.take (xB l)) true with
 |none=>none
 |some h=>if xB l=l.length then some ⟨h,[]⟩ else
  match yD (l.drop (xB l+1)) ((l.drop (xB l+1)).length+1) 0 0 0 with
  |none=>none
  |some b=>some ⟨h,b⟩
def vT(l:List ByteArray):Nat->Nat->Nat->Option (List zc)
 |0,a,_=>if a=l.length then some [] else none
 |n+1,a,i=>
  if ((gB l i).toList == [46]) then
   match jL ((l.drop a).take (i-a)) with
   |none=>none
   |some c=>(vT l n (i+1) (i+1)).map (c::·)
  else vT l n a (i+1)
def uT(l:List ByteArray):Option (List zc):=vT l l.length 0 0
end
section
open Go.Proofs.Tryz Go.RowKit
variable {lo:Nat}{o:Option (List zj)}
theorem A8(w:World)(v:Value)(l:List ByteArray)(b:Bool)(k:SV w v l)(g:∀y∈l,0<y.size)(r:l.length<=500):
  Calls prog 152 #[v,.bool b] w fun e u=>ju (jw l b) w e u:=by
 unfold jw;cases p:Qg l b with
 |false=>
  rw[za (by simp)];by_cases d:l.length=0
  ·have:xe false l=none:=by unfold xe;rw[zb d]
   rw[this];exact M7 w v l b k g r p d
  ·cases f:yL (P8 (gB l 0) 0) with
   |false=>
    have:xe false l=none:=by unfold xe;rw[za d,zb f]
    rw[this];exact Lm w v l b k g r p d f
   |true=>
    by_cases j:l.length=1
    ·have:xe false l=some ⟨false,gB l 0,[]⟩:=by unfold xe;rw[za d,f,za (by simp),zb j]
     rw[this];exact Jv w v l b k g r p d f j
    ·by_cases a:l.length<4∨l.length%2=1∨((gB l 1).toList == [40])=false∨((gB l (l.length-1)).toList == [41])=false
     ·have:xe false l=none:=by unfold xe;rw[za d,f,za (by simp),za j,zb a]
      rw[this];by_cases q:l.length<4
      ·exact NW w v l b k g r p d f j q
      ·by_cases s:l.length%2=1
       ·exact Iu w v l b k g r p d f j q s
       ·cases m:((gB l 1).toList == [40]) with
        |false=>exact FA w v l b k g r p d f j q s m
        |true=>
         cases n:((gB l (l.length-1)).toList == [41]) with
         |false=>exact Lj w v l b k g r p d f j q s m n
         |true=>rw[m,n] at a;simp at a;omega
     ·simp only[not_or,pZ] at a;exact Jq w v l b k g r p d f j a.1 a.2.1 a.2.2.1 a.2.2.2
 |true=>
  rw[zb rfl];simp only[Qg,vq,decide_eq_true_eq,Bool.not_eq_true'] at p;obtain⟨⟨A,z⟩,rfl⟩:=p;cases l with
  |nil=>simp at A
  |cons x l=>
   have h:(x.toList == [33])=true:=z;have c:∀y∈l,0<y.size:=fun y t=>g y (nO _ t);have i:l.length<=500:=by simp at r;omega
   rw[hX];by_cases d:l.length=0
   ·have:xe true l=none:=by unfold xe;rw[zb d]
    rw[this];exact GT w v x l k c h i d
   ·cases f:yL (P8 (gB l 0) 0) with
    |false=>
     have:xe true l=none:=by unfold xe;rw[za d,zb f]
     rw[this];exact MM w v x l k c h i d f
    |true=>
     by_cases j:l.length=1
     ·have:xe true l=some ⟨true,gB l 0,[]⟩:=by unfold xe;rw[za d,f,za (by simp),zb j]
      rw[this];exact GX w v x l k c h i d f j
     ·by_cases a:l.length<4∨l.length%2=1∨((gB l 1).toList == [40])=false∨((gB l (l.length-1)).toList == [41])=false
      ·have:xe true l=none:=by unfold xe;rw[za d,f,za (by simp),za j,zb a]
       rw[this];by_cases q:l.length<4
       ·exact IU w v x l k c h i d f j q
       ·by_cases s:l.length%2=1
        ·exact JN w v x l k c h i d f j q s
        ·cases m:((gB l 1).toList == [40]) with
         |false=>exact KZ w v x l k c h i d f j q s m
         |true=>
          cases n:((gB l (l.length-1)).toList == [41]) with
          |false=>exact Mr w v x l k c h i d f j q s m n
          |true=>rw[m,n] at a;simp at a;omega
      ·simp only[not_or,pZ] at a;exact Fu w v x l k c h i d f j a.1 a.2.1 a.2.2.1 a.2.2.2
theorem eU(w:World)(v:Value)(l:List ByteArray)(a:Bool)(j:SV w v l)(d:∀y∈l,0<y.size)(m:l.length<=500)(h:jw l a=none):
  Calls prog 152 #[v,.bool a] w fun e i=>∃b p f n c,e=.returned (.tuple #[.agg #[.bool b,.string p,.slice f n c],.bool false])/\Below w.heap.size w i:=by
 refine(A8 w v l a j d m).mono ?_;rintro e i ⟨k,g⟩;rw[h] at g;obtain⟨b,p,f,n,c,q⟩:=g;exact⟨b,p,f,n,c,q,k⟩
theorem eG(w:World)(v:Value)(l:List ByteArray)(b:Bool)(a:zj)(j:SV w v l)(d:∀y∈l,0<y.size)(m:l.length<=500)(h:jw l b=some a):
  Calls prog 152 #[v,.bool b] w fun e f=>∃c,e=.returned (.tuple #[.agg #[.bool a.neg,.string a.pred,c],.bool true])/\P7 w.heap.size f c a.args/\Below w.heap.size w f:=by
 refine(A8 w v l b j d m).mono ?_;rintro e f ⟨k,g⟩;rw[h] at g;obtain⟨c,n,i⟩:=g;exact⟨c,n,i,k⟩
def iv(o:Option (List zj))(w:World)(e:Ending)(a:World):Prop:=
 Below w.heap.size w a/\match o with
  |none=>e=.returned (.tuple #[.slice none 0 0,.bool false])
  |some b=>∃v,e=.returned (.tuple #[v,.bool true])/\PX w.heap.size a v b
theorem o4{w a:World}(h:Hid (o=none))(c:Below w.heap.size w a):iv o w (.returned (.tuple #[.slice none 0 0,.bool false])) a:=by
 have b:o=none:=h;subst b;exact⟨c,rfl⟩
theorem FC{w a:World}{v:Value}{b:List zj}(h:Hid (o=some b))(d:Below w.heap.size w a)(hs:PX w.heap.size a v b):iv o w (.returned (.tuple #[v,.bool true])) a:=by
 have c:o=some b:=h;subst c;exact⟨d,v,rfl,hs⟩
theorem Al(w:World)(v:Value)(l:List ByteArray)(Y:SV w v l)(ag:∀y∈l,0<y.size)(hl:l.length<=500):
  Calls prog 153 #[v] w fun e w'=>iv (yD l (l.length+1) 0 0 0) w e w':=by
 obtain⟨i0,hi,ae,ac,ab⟩:=info_parts Pe;obtain⟨i1,N,_,_,_⟩:=info_parts Po;obtain⟨ao,aq,rfl⟩:=Y.qx;go_enter func153,ntmps153;go_wp2;go_loopw [4,5,6,7] (fun v4 v5 v6 v7 wr=>∃(g:List zj) (f k m:Nat) (d:Int) (W:List Value),v5=.int .i64 f/\v6=.int .i64 d/\v7=.int .i64 k/\f<=k/\k<=l.length+1/\m+k=l.length+1/\-500<=d+(k:Int)/\d<=k/\-(k:Int)<=d/\g.length<=k/\(k=l.length+1∨f<=l.length) ∧
   Below w.heap.size w wr/\wr.ownsRow w.heap.size 90 3 v4 g.length W/\uA w.heap.size wr g W/\Hid (yD l (l.length+1) 0 0 0=(yD l m f d k).map (g++·))) (fun _ _ _ i _=>l.length+1-(intOf i).toNat)
 case atStart=>exact⟨[],0,0,l.length+1,0,[],rfl,rfl,rfl,zf _,by omega,by omega,by omega,by omega,by omega,by simp,ze (by omega),zo _ _,yI _ _ _ _,rfl,(by simp[Hid])⟩
 case round=>
  obtain⟨g,f,k,m,d,W,rfl,rfl,rfl,ap,aw,ar,av,an,ax,am,au,h,n,t,H⟩:=hrel;have al:=h.size;by_cases az:k<=l.length
  ·obtain⟨m,rfl⟩:∃m',m=m'+1:=⟨m-1,by omega⟩;by_cases M:k<l.length
   ·obtain⟨b,o,rfl,af,ad⟩:=Y.cell k M;have ai:=zm h af ad;have ay:b<wr.heap.size:=by omega
    rw[xu M] at ai;clear ad;have c:yD l (m+1) f d k=(if ((gB l k).toList == [40]) then yD l m f (d+1) (k+1) else if ((gB l k).toList == [41]) then yD l m f (d-1) (k+1) else if ((gB l k).toList == [44])=false∨0<d then yD l m f d (k+1) else match jw ((l.drop f).take (k-f)) false with|none=>none|some a=>(yD l m (k+1) d (k+1)).map (a::·)):=by rw[yD,zb M];try rfl
    cases z:((gB l k).toList == [40]) with
    |true=>
     obtain⟨B,I⟩:=s40 z;have G:Hid (yD l (l.length+1) 0 0 0=(yD l m f (d+1) (k+1)).map (g++·)):=by rw[Hid,H.out,c,z];rfl
     clear H c;generalize gB l k=x at *;go_wp2;go_roundw
     case rel=>exact⟨g,f,k+1,m,d+1,W,rfl,rfl,by go_num,by omega,by omega,by omega,by omega,by omega,by omega,by omega,by omega,h,n,t,G⟩
     case measure=>simp[intOf];omega
    |false=>
     cases B:((gB l k).toList == [41]) with
     |true=>
      obtain⟨_,I⟩:=s41 B;have G:Hid (yD l (l.length+1) 0 0 0=(yD l m f (d-1) (k+1)).map (g++·)):=by rw[Hid,H.out,c,z,B];rfl
      clear H c;generalize gB l k=x at *;go_wp2;go_roundw
      case rel=>exact⟨g,f,k+1,m,d-1,W,rfl,rfl,by go_num,by omega,by omega,by omega,by omega,by omega,by omega,by omega,by omega,h,n,t,G⟩
      case measure=>simp[intOf];omega
     |false=>
      cases I:((gB l k).toList == [44]) with
      |false=>
       have G:Hid (yD l (l.length+1) 0 0 0=(yD l m f d (k+1)).map (g++·)):=by rw[Hid,H.out,c,z,B,I];simp
       clear H c;generalize gB l k=x at *;go_wp2;go_roundw
       case rel=>exact⟨g,f,k+1,m,d,W,rfl,rfl,by go_num,by omega,by omega,by omega,by omega,by omega,by omega,by omega,by omega,h,n,t,G⟩
       case measure=>simp[intOf];omega
      |true=>
       by_cases aj:0<d
       ·have G:Hid (yD l (l.length+1) 0 0 0=(yD l m f d (k+1)).map (g++·)):=by rw[Hid,H.out,c,z,B,I];simp[aj]
        clear H c;generalize gB l k=x at *;go_wp2;go_roundw
        case rel=>exact⟨g,f,k+1,m,d,W,rfl,rfl,by go_num,by omega,by omega,by omega,by omega,by omega,by omega,by omega,by omega,h,n,t,G⟩
        case measure=>simp[intOf];omega
       ·rw[z,B,I,za (by simp),za (by simp),za (by simp;omega)] at c;generalize gB l k=x at *;have F:Hid (∀y∈(l.drop f).take (k-f),0<y.size):=fun y hy=>ag y (gZ (fU hy));cases A:jw ((l.drop f).take (k-f)) false with
        |none=>
         have V:=Px A;have Z:Hid (yD l (l.length+1) 0 0 0=none):=by rw[Hid,H.out,c,A];rfl
         clear H c A;go_wp2_with (first|(refine qS _ w rfl (.tmp 58) 30 9 (some (.tmp 59)) (some (.tmp 60)) rfl underlying30 i1 N ON _ l rfl Y f k (ze rfl) (ze rfl) (by omega) (by omega) (k-f) rfl ?_;intro U C u)|(go_at_call 152;refine(eU _ _ ((l.drop f).take (k-f)) false (by exact u.below h) F.out (by simp;omega) V).mono ?_;rintro e w1 ⟨b1,p1,ak,n1,ah,rfl,j⟩;have p:=P3 h j;have J:=p.size))
         go_ret2
         exact o4 Z (by go_grown)
        |some a=>
         have V:=Px A;have G:Hid (yD l (l.length+1) 0 0 0=(yD l m (k+1) d (k+1)).map ((g++[a])++·)):=by rw[Hid,H.out,c,A];simp only[];rw[rm]
         clear H c A;go_wp2_with (first|(refine qS _ w rfl (.tmp 58) 30 9 (some (.tmp 59)) (some (.tmp 60)) rfl underlying30 i1 N ON _ l rfl Y f k (ze rfl) (ze rfl) (by omega) (by omega) (k-f) rfl ?_;intro U C u)|(go_at_call 152;refine(eG _ _ ((l.drop f).take (k-f)) false a (by exact u.below h) F.out (by simp;omega) V).mono ?_;rintro e w1 ⟨va,rfl,r,j⟩;obtain⟨O,K,rfl⟩:=r.qx;have p:=P3 h j;have J:=p.size;have s:=zC n j;have E:=t.mono fun _ _ q=>q.below j)|(at_builtin;refine jS w1 _ _ _ rfl (.tmp 67) (.tmp 69) 91 rfl w.heap.size 90 i0 _ 3 48 underlying91 hi ae ac ab rfl (by decide) _ _ _ rfl s zQ _ _ rfl (by simp) rfl (by simp[Value.oneCell']) (by omega) (by omega) J ?_;intro v' w2 T R X S L aa;clear X S;have Q:P7 w.heap.size w2 (Value.slice O a.args.length K) a.args:=yq (gs s (by decide) r L) h.size;have D:=E.mono fun _ _ q=>gs s (by decide) q L))
         go_roundw
         case rel=>exact⟨g++[a],k+1,k+1,m,d,_,by go_num,rfl,by go_num,zf _,by omega,by omega,by omega,by omega,by omega,by simp;omega,by omega,p.trans R,by rw[yv];exact T,D.snoc Q,G⟩
         case measure=>simp[intOf];omega
   ·have c:yD l (m+1) f d k=(match jw ((l.drop f).take (k-f)) false with|none=>none|some a=>some [a]):=by rw[yD,za M];try rfl
    have P:m=0:=by omega
    have F:Hid (∀y∈(l.drop f).take (k-f),0<y.size):=fun y hy=>ag y (gZ (fU hy));cases A:jw ((l.drop f).take (k-f)) false with
    |none=>
     have V:=Px A;have Z:Hid (yD l (l.length+1) 0 0 0=none):=by rw[Hid,H.out,c,A];rfl
     clear H c A;go_wp2_with (first|(refine qS _ w rfl (.tmp 58) 30 9 (some (.tmp 59)) (some (.tmp 60)) rfl underlying30 i1 N ON _ l rfl Y f k (ze rfl) (ze rfl) (by omega) (by omega) (k-f) rfl ?_;intro U C u)|(go_at_call 152;refine(eU _ _ ((l.drop f).take (k-f)) false (by exact u.below h) F.out (by simp;omega) V).mono ?_;rintro e w1 ⟨b1,p1,ak,n1,ah,rfl,j⟩;have p:=P3 h j;have J:=p.size))
     go_ret2
     exact o4 Z (by go_grown)
    |some a=>
     have V:=Px A;have G:Hid (yD l (l.length+1) 0 0 0=(yD l m (k+1) d (k+1)).map ((g++[a])++·)):=by rw[Hid,H.out,c,A,P];simp[yD]
     clear H c A;go_wp2_with (first|(refine qS _ w rfl (.tmp 58) 30 9 (some (.tmp 59)) (some (.tmp 60)) rfl underlying30 i1 N ON _ l rfl Y f k (ze rfl) (ze rfl) (by omega) (by omega) (k-f) rfl ?_;intro U C u)|(go_at_call 152;refine(eG _ _ ((l.drop f).take (k-f)) false a (by exact u.below h) F.out (by simp;omega) V).mono ?_;rintro e w1 ⟨va,rfl,r,j⟩;obtain⟨O,K,rfl⟩:=r.qx;have p:=P3 h j;have J:=p.size;have s:=zC n j;have E:=t.mono fun _ _ q=>q.below j)|(at_builtin;refine jS w1 _ _ _ rfl (.tmp 67) (.tmp 69) 91 rfl w.heap.size 90 i0 _ 3 48 underlying91 hi ae ac ab rfl (by decide) _ _ _ rfl s zQ _ _ rfl (by simp) rfl (by simp[Value.oneCell']) (by omega) (by omega) J ?_;intro v' w2 T R X S L aa;clear X S;have Q:P7 w.heap.size w2 (Value.slice O a.args.length K) a.args:=yq (gs s (by decide) r L) h.size;have D:=E.mono fun _ _ q=>gs s (by decide) q L))
     go_roundw
     case rel=>exact⟨g++[a],k+1,k+1,m,d,_,by go_num,rfl,by go_num,zf _,by omega,by omega,by omega,by omega,by omega,by simp;omega,by omega,p.trans R,by rw[yv];exact T,D.snoc Q,G⟩
     case measure=>simp[intOf];omega
  ·have P:m=0:=by omega
   have Z:Hid (yD l (l.length+1) 0 0 0=some g):=by rw[Hid,H.out,P];simp[yD]
   clear H;go_wp2;go_ret2
   exact FC Z h ⟨_,n,t⟩
end
theorem l8(s:ByteArray)(i:Nat):(s.extract i s.size).size=s.size-i:=by simp[ByteArray.size_extract]
theorem eF(s:ByteArray)(i j k:Nat)(b:j<=s.size)(c:i+k<j):P8 (s.extract i j) k=P8 s (i+k):=by
 have a:k<(s.extract i j).size:=by rw[ByteArray.size_extract];omega
 rw[qk a,qk (by omega:i+k<s.size)];simp[ByteArray.getElem_extract]
theorem pY(s:ByteArray)(i k:Nat):P8 (s.extract i s.size) k=P8 s (i+k):=by
 by_cases h:i+k<s.size
 ·exact eF s i s.size k (zf _) h
 ·rw[nz h,nz (by rw[l8];omega)]
theorem Ed(p:Int->Bool)(s:ByteArray)(i:Nat):∀(n j:Nat),s.size-i-j<=n->yA p (s.extract i s.size) j+i=yA p s (i+j):=by
 intro n;induction n with
 |zero=>intro j b;rw[gY (by rw[l8];omega),gY (by omega)];omega
 |succ n c=>
  intro j b;by_cases h:i+j<s.size
  ·cases a:p (P8 s (i+j)) with
   |true=>rw[lh (by rw[l8];omega) (by rw[pY];exact a),lh h a,c (j+1) (by omega)];rfl
   |false=>rw[mv (by rw[pY];exact a),mv a];omega
  ·rw[gY (by rw[l8];omega),gY h];omega
theorem Fj(s:ByteArray)(i:Nat)(k:Int):ym (s.extract i s.size) 0 k+i=ym s i k:=by
 unfold ym;have b:=Ed PW s i _ 0 (zf _);have a:=Ed yG s i _ 0 (zf _);simp only[uK] at b a;repeat' split
 all_goals omega
theorem M2(s:ByteArray)(i:Nat):xg (s.extract i s.size)+i=ym s i (yX (P8 s i) (P8 s (i+1))):=by
 unfold xg;rw[pY,pY,Fj];rfl
theorem iL(s:ByteArray)(i a b x y:Nat)(d:i+a=x)(c:min (i+b) s.size=y):(s.extract i s.size).extract a b=s.extract x y:=by
 rw[ByteArray.extract_extract,d,c]
theorem Mv(s:ByteArray)(i:Nat):ym s i 0=i:=by simp[ym]
theorem Mo(s:ByteArray):∀(n i:Nat),i<=s.size->s.size-i<=n->xa n (s.extract i s.size)=(PC n s i).map (·.map Prod.snd):=by
 intro n;induction n with
 |zero=>intro i p l;rw[wt (by rw[l8];omega),pu (by omega)];rfl
 |succ n j=>
  intro i p l;by_cases h:i<s.size
  ·have e:0<(s.extract i s.size).size:=by rw[l8];omega
   have a:=pY s i 0;cases b:vW (P8 s i) with
   |true=>
    rw[B0 e (by rw[a];exact b),sJ h b,←j (i+1) (by omega) (by omega),iL s i 1 _ (i+1) s.size rfl (by rw[l8];omega)]
   |false=>
    have f:=M2 s i;generalize d:yX (P8 s i) (P8 s (i+1))=k at f;by_cases c:k=0
    ·subst c;rw[Mv] at f;rw[iD e (by rw[a];exact b) (zg (by omega)),sA h b d];rfl
    ·have q:=pC s i k h d c;by_cases g:6<ym s i k-i
     ·rw[iD e (by rw[a];exact b) (ze (by omega)),rC h b d g];rfl
     ·rw[Cr e (by rw[a];exact b) (by omega) (by omega),tq h b d c g];have o:(s.extract i s.size).extract 0 (xg (s.extract i s.size))=s.extract i (ym s i k):=iL s i _ _ _ _ rfl (by omega);have m:(s.extract i s.size).extract (xg (s.extract i s.size)) (s.extract i s.size).size=s.extract (ym s i k) s.size:=iL s i _ _ _ _ (by omega) (by rw[l8];omega);rw[o,m,j _ (by omega) (by omega),Option.map_map,Option.map_map];rfl
  ·rw[wt (by rw[l8];omega),pu h];rfl
theorem pA(s:ByteArray):xa s.size s=(PA s).map (·.map Prod.snd):=by
 have h:=Mo s s.size 0 (by omega) (by omega);rwa [show s.extract 0 s.size=s by simp] at h
section
variable {t:ByteArray}
theorem wY(t:ByteArray)(i:Nat):P8 t i=((t.toList[i]?.map fun b=>(b.toNat:Int)).getD 0):=by
 rw[lu];by_cases h:i<t.size
 ·rw[qk h,yr (by simpa using h)];rfl
 ·rw[nz h,kp (by simpa using h)];rfl
theorem eN(t:ByteArray):t.toList.length=t.size:=by rw[lu];simp
theorem LK(h:t.size=1)(c:UInt8):(t.toList == [c])=(P8 t 0 == (c.toNat:Int)):=by
 have b:=(eN t).trans h;rw[wY];revert b
 generalize t.toList=l;intro b;match l,b with
 |[a],_=>
  by_cases d:a=c
  ·subst d;simp
  ·have:a.toNat≠c.toNat:=fun h=>d (UInt8.toNat_inj.1 h);rw[show([a] == [c])=false by simpa using d];simp;omega
theorem Kg{c:UInt8}{r:List UInt8}(h:P8 t 0≠(c.toNat:Int)):(t.toList == c::r)=false:=by
 rw[beq_eq_false_iff_ne];intro a;apply h;rw[wY,a];rfl
structure fB (x:P4):Prop where
 n:(x.1 == 1)=yL (P8 x.2 0)
 t:Qw x.1=PW (P8 x.2 0)
 k4:(x.1 == 4)=(x.2.toList == [40])
 k5:(x.1 == 5)=(x.2.toList == [41])
 k6:(x.1 == 6)=(x.2.toList == [44])
 k7:(x.1 == 7)=(x.2.toList == [46])
 k8:(x.1 == 8)=(x.2.toList == [33])
 k9:(x.1 == 9)=(x.2.toList == [58,45])
theorem Nc(h:PW (P8 t 0)=true)(c:UInt8)(b:PW (c.toNat:Int)=false)(r:List UInt8):(t.toList == c::r)=false:=by
 apply Kg;intro a;rw[a,b] at h;exact zB h (by simp)
theorem io{k:Int}(h:PW (P8 t 0)=true)(a:k=1∨k=2∨k=3)(b:(k == 1)=yL (P8 t 0)):fB (k,t):=by
 refine⟨b,?_,?_,?_,?_,?_,?_,?_⟩
 ·rw[h];rcases a with h|h|h<;>subst h<;>rfl
 all_goals
  show _=(t.toList == _::_);rw[Nc h _ (by decide)];rcases a with h|h|h<;>subst h<;>rfl
theorem LF(g:t.size=2)(c:P8 t 0=58)(d:P8 t 1=45):fB (9,t):=by
 have e:t.toList=[58,45]:=by
  have f:=(eN t).trans g;rw[wY] at c d;revert f c d
  generalize t.toList=l;intro c d f;match l,f,c,d with
  |[a,b],_,c,d=>
   have c:(a.toNat:Int)=58:=c;have d:(b.toNat:Int)=45:=d;have i:a=58:=UInt8.toNat_inj.1 (by simpa using(by omega:a.toNat=58));have h:b=45:=UInt8.toNat_inj.1 (by simpa using(by omega:b.toNat=45));rw[i,h]
 constructor<;>(try rw[c])<;>(try (show _=(t.toList == _);rw[e]))<;>rfl
theorem KL{k c:Int}(e:t.size=1)(d:P8 t 0=c)(a:gM c=k)(i:k≠0):fB (k,t):=by
 have b:c=40∨c=41∨c=44∨c=46∨c=33:=by unfold gM at a;(repeat' split at a)<;>omega
 have f:(t.toList == [58,45])=false:=by
  rw[beq_eq_false_iff_ne];intro g;have:=eN t;rw[g,e] at this;simp at this
 constructor
 case n=>show _=yL (P8 t 0);rw[d];rcases b with h|h|h|h|h<;>subst h<;>subst a<;>rfl
 case t=>show _=PW (P8 t 0);rw[d];rcases b with h|h|h|h|h<;>subst h<;>subst a<;>rfl
 case k9=>show _=(t.toList == _);rw[f];rcases b with h|h|h|h|h<;>subst h<;>subst a<;>rfl
 all_goals
  show _=(t.toList == _);rw[LK e,d];rcases b with h|h|h|h|h<;>subst h<;>subst a<;>rfl
theorem MX(s:ByteArray)(i:Nat)(k:Int)(h:i<s.size)(b:yX (P8 s i) (P8 s (i+1))=k)(d:k≠0):fB (k,s.extract i (ym s i k))/\0<(s.extract i (ym s i k)).size:=by
 have g:=pC s i k h b d;have j:(s.extract i (ym s i k)).size=ym s i k-i:=by rw[ByteArray.size_extract];omega
 refine⟨?_,by omega⟩;have a:P8 (s.extract i (ym s i k)) 0=P8 s i:=eF s i _ 0 g.2 (by omega);have f:=fun(m:i+1<ym s i k)=>eF s i _ 1 g.2 m;unfold yX at b;split at b
 ·rename_i c;subst b;exact io (by rw[a];simp[PW,c]) (zg rfl) (by rw[a,c];rfl)
 ·rename_i e;split at b
  ·rename_i c;subst b;exact io (by rw[a];simp[PW,c]) (ze (zg rfl)) (by rw[a];simp[e])
  ·rename_i o;split at b
   ·rename_i c;subst b;exact io (by rw[a];simp[PW,c]) (ze (ze rfl)) (by rw[a];simp[e])
   ·split at b
    ·rename_i q c;subst b;have l:ym s i 9=i+2:=by simp[ym]
     exact LF (by rw[j,l];omega) (by rw[a];exact c.1) (by rw[f (by omega)];exact c.2)
    ·have p:ym s i k=i+1:=by
      have n:k≠9/\k≠1/\k≠2/\k≠3:=by subst b;unfold gM;(repeat' split)<;>simp
      simp[ym,d,n]
     exact KL (by rw[j,p];omega) a b d
theorem Kh(s:ByteArray):∀(n i:Nat) (l:List P4),PC n s i=some l->∀x∈l,fB x/\0<x.2.size:=by
 intro n;induction n with
 |zero=>intro i l h;simp[PC] at h;subst h;simp
 |succ n g=>
  intro i l h;by_cases b:i<s.size
  ·cases c:vW (P8 s i) with
   |true=>rw[sJ b c] at h;exact g _ _ h
   |false=>
    generalize d:yX (P8 s i) (P8 s (i+1))=k;by_cases a:k=0
    ·subst a;rw[sA b c d] at h;exact zB h (by simp)
    ·by_cases f:6<ym s i k-i
     ·rw[rC b c d f] at h;exact zB h (by simp)
     ·rw[tq b c d a f] at h;obtain⟨r,j,rfl⟩:=vE.1 h;intro x e;rcases zu.1 e with rfl|e
      ·exact MX s i k b d a
      ·exact g _ _ j x e
  ·rw[pu b] at h;simp at h;subst h;simp
theorem nR{s:ByteArray}{l:List P4}(h:PA s=some l):∀x∈l,fB x/\0<x.2.size:=Kh s _ _ l h
end
end Go.Proofs.YteampbddflhngaaGreat
