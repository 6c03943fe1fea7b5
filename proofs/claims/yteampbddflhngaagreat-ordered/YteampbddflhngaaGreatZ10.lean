import Derived.Test.YteampbddflhngaaGreatZ06
namespace Go.Proofs.YteampbddflhngaaGreat
set_option linter.all false
set_option maxRecDepth 100000
set_option maxHeartbeats 2000000
section
open Go.Proofs.Tryz Go.RowKit
def RX(c:Int)(s:ByteArray):Bool:=s.data.toList.any fun b=>(b.toNat:Int) == c
theorem nB(c:Int)(s:ByteArray)(w:World)(hs:s.size<=1000):
  Calls prog 105 #[.int .u8 c,.string s] w fun e m=>e=ε (.bool (RX c s))/\m=w:=by
 go_enter func105,ntmps105;go_wp2;go_loop [5] (fun i=>∃k:Nat,k<=s.size/\i=ι k/\Hid (RX c s=(s.data.toList.drop k).any fun b=>(b.toNat:Int) == c)) (fun i=>s.size-(intOf i).toNat)
 case atStart=>exact⟨0,zv _,rfl,rfl⟩
 case round=>
  obtain⟨k,n,rfl,H⟩:=hrel;by_cases h:k<s.size
  ·have f:k<s.data.toList.length:=by rw[ny];exact h
   have d:=Aa s.data.toList (fun b=>(b.toNat:Int) == c) k f;have g:s.data.toList[k]=s[k]:=rfl;rw[g] at d;have l:Hid (RX c s=(((s[k].toNat:Int) == c)||(s.data.toList.drop (k+1)).any fun b=>(b.toNat:Int) == c)):=by rw[Hid,H.out,d]
   cases j:((s[k].toNat:Int) == c) with
   |true=>
    have a:Hid (RX c s=true):=by rw[Hid,l.out,j];rfl
    go_wp2;go_ret;exact⟨by rw[a.out];rfl,rfl⟩
   |false=>
    have a:Hid (RX c s=(s.data.toList.drop (k+1)).any fun b=>(b.toNat:Int) == c):=by rw[Hid,l.out,j];rfl
    go_wp2;go_round
    case rel=>exact⟨k+1,by omega,by go_num,a⟩
    case measure=>simp[intOf];omega
  ·have a:Hid (RX c s=false):=by rw[Hid,H.out,ue (by rw[ny];show s.size<=k;omega)];rfl
   go_wp2;go_ret;exact⟨by rw[a.out];rfl,rfl⟩
theorem nt(p:Int->Bool)(s:ByteArray)(h:(List.range 256).all (fun n=>RX (n:Int) s == p (n:Int))=true)(c:Int)(a:0<=c)(b:c<256):RX c s=p c:=by
 obtain⟨n,rfl⟩:=Int.eq_ofNat_of_zero_le a;have:=ko.1 h n (by simp;omega);simpa using this
def Sj(c:Int):Bool:=c == 40||c == 41||c == 44||c == 46||c == 33
def mZ(c:Int):Bool:=yR c||vO c
theorem Mt(c:Int)(b:0<=c)(a:c<256):RX c {data:=#[32,10]}=qG c:=nt qG _ (by decide +kernel) c b a
theorem Ju(c:Int)(b:0<=c)(a:c<256):RX c {data:=#[48,49,50,51,52,53,54,55,56,57]}=yH c:=nt yH _ (by decide +kernel) c b a
theorem KH(c:Int)(b:0<=c)(a:c<256):RX c {data:=#[97,98,99,100,101,102,103,104,105,106,107,108,109,110,111,112,113,114,115,116,117,118,119,120,121,122]}=yR c:=nt yR _ (by decide +kernel) c b a
theorem Og(c:Int)(b:0<=c)(a:c<256):RX c {data:=#[65,66,67,68,69,70,71,72,73,74,75,76,77,78,79,80,81,82,83,84,85,86,87,88,89,90]}=vO c:=nt vO _ (by decide +kernel) c b a
theorem Gk(c:Int)(b:0<=c)(a:c<256):RX c {data:=#[97,98,99,100,101,102,103,104,105,106,107,108,109,110,111,112,113,114,115,116,117,118,119,120,121,122,65,66,67,68,69,70,71,72,73,74,75,76,77,78,79,80,81,82,83,84,85,86,87,88,89,90]}=mZ c:=nt mZ _ (by decide +kernel) c b a
theorem Im(c:Int)(b:0<=c)(a:c<256):RX c {data:=#[97,98,99,100,101,102,103,104,105,106,107,108,109,110,111,112,113,114,115,116,117,118,119,120,121,122,65,66,67,68,69,70,71,72,73,74,75,76,77,78,79,80,81,82,83,84,85,86,87,88,89,90,48,49,50,51,52,53,54,55,56,57]}=Rc c:=nt Rc _ (by decide +kernel) c b a
theorem Jl(c:Int)(b:0<=c)(a:c<256):RX c {data:=#[40,41,44,46,33]}=Sj c:=nt Sj _ (by decide +kernel) c b a
theorem pe(c:Int)(w:World)(d:0<=c)(b:c<256):Calls prog 105 #[.int .u8 c,.string {data:=#[32,10]}] w fun e a=>e=ε (.bool (qG c))/\a=w:=by
 have:=nB c {data:=#[32,10]} w (by decide);rw[Mt c d b] at this;exact this
theorem l0(c:Int)(w:World)(d:0<=c)(b:c<256):Calls prog 105 #[.int .u8 c,.string {data:=#[48,49,50,51,52,53,54,55,56,57]}] w fun e a=>e=ε (.bool (yH c))/\a=w:=by
 have:=nB c {data:=#[48,49,50,51,52,53,54,55,56,57]} w (by decide);rw[Ju c d b] at this;exact this
theorem OE(c:Int)(w:World)(d:0<=c)(b:c<256):Calls prog 105 #[.int .u8 c,.string {data:=#[97,98,99,100,101,102,103,104,105,106,107,108,109,110,111,112,113,114,115,116,117,118,119,120,121,122]}] w fun e a=>e=ε (.bool (yR c))/\a=w:=by
 have:=nB c {data:=#[97,98,99,100,101,102,103,104,105,106,107,108,109,110,111,112,113,114,115,116,117,118,119,120,121,122]} w (by decide);rw[KH c d b] at this;exact this
theorem P6(c:Int)(w:World)(d:0<=c)(b:c<256):Calls prog 105 #[.int .u8 c,.string {data:=#[65,66,67,68,69,70,71,72,73,74,75,76,77,78,79,80,81,82,83,84,85,86,87,88,89,90]}] w fun e a=>e=ε (.bool (vO c))/\a=w:=by
 have:=nB c {data:=#[65,66,67,68,69,70,71,72,73,74,75,76,77,78,79,80,81,82,83,84,85,86,87,88,89,90]} w (by decide);rw[Og c d b] at this;exact this
theorem l8(c:Int)(w:World)(d:0<=c)(b:c<256):Calls prog 105 #[.int .u8 c,.string {data:=#[97,98,99,100,101,102,103,104,105,106,107,108,109,110,111,112,113,114,115,116,117,118,119,120,121,122,65,66,67,68,69,70,71,72,73,74,75,76,77,78,79,80,81,82,83,84,85,86,87,88,89,90]}] w fun e a=>e=ε (.bool (mZ c))/\a=w:=by
 have:=nB c {data:=#[97,98,99,100,101,102,103,104,105,106,107,108,109,110,111,112,113,114,115,116,117,118,119,120,121,122,65,66,67,68,69,70,71,72,73,74,75,76,77,78,79,80,81,82,83,84,85,86,87,88,89,90]} w (by decide);rw[Gk c d b] at this;exact this
theorem fU(c:Int)(w:World)(d:0<=c)(b:c<256):Calls prog 105 #[.int .u8 c,.string {data:=#[97,98,99,100,101,102,103,104,105,106,107,108,109,110,111,112,113,114,115,116,117,118,119,120,121,122,65,66,67,68,69,70,71,72,73,74,75,76,77,78,79,80,81,82,83,84,85,86,87,88,89,90,48,49,50,51,52,53,54,55,56,57]}] w fun e a=>e=ε (.bool (Rc c))/\a=w:=by
 have:=nB c {data:=#[97,98,99,100,101,102,103,104,105,106,107,108,109,110,111,112,113,114,115,116,117,118,119,120,121,122,65,66,67,68,69,70,71,72,73,74,75,76,77,78,79,80,81,82,83,84,85,86,87,88,89,90,48,49,50,51,52,53,54,55,56,57]} w (by decide);rw[Im c d b] at this;exact this
theorem kq(c:Int)(w:World)(d:0<=c)(b:c<256):Calls prog 105 #[.int .u8 c,.string {data:=#[40,41,44,46,33]}] w fun e a=>e=ε (.bool (Sj c))/\a=w:=by
 have:=nB c {data:=#[40,41,44,46,33]} w (by decide);rw[Jl c d b] at this;exact this
theorem kZ(s:ByteArray)(w:World)(h:0<s.size):
  Calls prog 184 #[.string s] w fun e a=>e=ε (.bool (yR (QE s 0)))/\a=w:=by
 have b:=fa s 0;rw[vX h] at b ⊢;go_enter func184,ntmps184;go_wp2_with (go_at_call 105;refine(OE _ _ (by omega) (by omega)).mono ?_;rintro e a ⟨rfl,rfl⟩)
 go_ret;exact⟨rfl,rfl⟩
theorem wu(s:ByteArray)(w:World)(h:0<s.size):
  Calls prog 154 #[.string s] w fun e a=>e=ε (.bool (vO (QE s 0)))/\a=w:=by
 have b:=fa s 0;rw[vX h] at b ⊢;go_enter func154,ntmps154;go_wp2_with (go_at_call 105;refine(P6 _ _ (by omega) (by omega)).mono ?_;rintro e a ⟨rfl,rfl⟩)
 go_ret;exact⟨rfl,rfl⟩
theorem m6(s:ByteArray)(w:World)(h:0<s.size):
  Calls prog 185 #[.string s] w fun e a=>e=ε (.bool (Rc (QE s 0)))/\a=w:=by
 have b:=fa s 0;rw[vX h] at b ⊢;go_enter func185,ntmps185;go_wp2_with (go_at_call 105;refine(fU _ _ (by omega) (by omega)).mono ?_;rintro e a ⟨rfl,rfl⟩)
 go_ret;exact⟨rfl,rfl⟩
theorem Fq(s:ByteArray)(h:1<s.size):((s.extract 0 2).toList == [58,45])=(decide (QE s 0=58)&&decide (QE s 1=45)):=by
 rw[l7,vX (by omega:0<s.size),vX h];have d:(s.extract 0 2).data.toList=[s[0],s[1]]:=by
  rw[ByteArray.data_extract,Array.toList_extract];obtain⟨⟨l⟩⟩:=s;match l,h with
  |a::b::r,_=>rfl
 rw[d];have e:∀(x:UInt8) (n:UInt8),(x == n)=decide ((x.toNat:Int)=(n.toNat:Int)):=fun x n=>by
  by_cases c:x=n
  ·subst c;simp
  ·rw[beq_eq_false_iff_ne.2 c];symm;rw[decide_eq_false_iff_not];intro f;exact c (UInt8.toNat_inj.1 (by omega))
 simp only[List.cons_beq_cons,e,List.nil_beq_eq,List.isEmpty_nil,Bool.and_true];rfl
def xg(s:ByteArray):Nat:=yi s 0 (xa (QE s 0) (QE s 1))
theorem IT(s:ByteArray)(w:World)(_:s.size<=500)(d:1<s.size)(c:QE s 0=58)(a:QE s 1=45):
  Calls prog 106 #[.string s] w fun e f=>e=ε (ι (xg s))/\f=w:=by
 have h:Hid (xg s=2):=by unfold Hid xg;rw[c,a];rfl
 have b:=Fq s d;rw[c,a] at b;have g:((s.extract 0 2).toList == [58,45])=true:=b;clear b c a;go_enter func106,ntmps106;go_wp2_with fail
 go_ret;exact⟨by rw[h.out];rfl,rfl⟩
def rZ(s:ByteArray):Prop:=¬1<s.size∨(1<s.size/\((s.extract 0 2).toList == [58,45])=false)
theorem Jx(s:ByteArray)(h:¬(QE s 0=58/\QE s 1=45)):rZ s:=by
 by_cases a:1<s.size
 ·right;refine⟨a,?_⟩;rw[Fq s a];simp only[tX,decide_eq_false_iff_not];omega
 ·left;exact a
theorem I5(s:ByteArray)(w:World)(hs:s.size<=500)(g:0<s.size)(b:rZ s)(h:Sj (QE s 0)=true):
  Calls prog 106 #[.string s] w fun e d=>e=ε (ι (1))/\d=w:=by
 have c:=fa s 0;have a:=vX g;rw[a] at c h;clear a;rcases b with b|⟨f,b⟩
 all_goals
  go_enter func106,ntmps106;go_wp2_with (go_at_call 105;refine(kq _ _ (by omega) (by omega)).mono ?_;rintro e d ⟨rfl,rfl⟩)
  go_ret;exact⟨rfl,rfl⟩
theorem Jc(s:ByteArray)(w:World)(hs:s.size<=500)(n:0<s.size)(j:rZ s)(h:Sj (QE s 0)=false)(o:yH (QE s 0)=true):
  Calls prog 106 #[.string s] w fun e a=>e=ε (ι (y6 yH s 0))/\a=w:=by
 have l:=fa s 0;have i:=vX n;rw[i] at l h o;rcases j with j|⟨m,j⟩
 all_goals
  go_enter func106,ntmps106;go_wp2_with (first|(go_at_call 105;with_reducible refine(kq _ _ (by omega) (by omega)).mono ?_;rintro e a ⟨rfl,rfl⟩)|(go_at_call 105;with_reducible refine(l0 _ _ (by omega) (by omega)).mono ?_;rintro e a ⟨rfl,rfl⟩)|(go_at_call 105;with_reducible refine(l8 _ _ (by omega) (by omega)).mono ?_;rintro e a ⟨rfl,rfl⟩)|(go_at_call 105;with_reducible refine(fU _ _ (by omega) (by omega)).mono ?_;rintro e a ⟨rfl,rfl⟩))
  go_loop [3] (fun t=>∃k:Nat,k<=s.size/\t=ι k/\Hid (y6 yH s 0=y6 yH s k)) (fun t=>s.size-(intOf t).toNat)
  case atStart=>exact⟨0,zv _,rfl,rfl⟩
  case round=>
   obtain⟨k,p,rfl,H⟩:=hrel;by_cases c:k<s.size
   ·have d:=vX c;have f:=fa s k;cases b:yH (QE s k) with
    |true=>
     have g:Hid (y6 yH s 0=y6 yH s (k+1)):=by rw[Hid.out H,lF c b];rfl
     rw[d] at b f;go_wp2_with (first|(go_at_call 105;with_reducible refine(kq _ _ (by omega) (by omega)).mono ?_;rintro e a ⟨rfl,rfl⟩)|(go_at_call 105;with_reducible refine(l0 _ _ (by omega) (by omega)).mono ?_;rintro e a ⟨rfl,rfl⟩)|(go_at_call 105;with_reducible refine(l8 _ _ (by omega) (by omega)).mono ?_;rintro e a ⟨rfl,rfl⟩)|(go_at_call 105;with_reducible refine(fU _ _ (by omega) (by omega)).mono ?_;rintro e a ⟨rfl,rfl⟩))
     go_round
     case rel=>exact⟨k+1,by omega,by go_num,g⟩
     case measure=>simp[intOf];omega
    |false=>
     have g:Hid (y6 yH s 0=k):=by rw[Hid.out H,m4 b];rfl
     rw[d] at b f;go_wp2_with (first|(go_at_call 105;with_reducible refine(kq _ _ (by omega) (by omega)).mono ?_;rintro e a ⟨rfl,rfl⟩)|(go_at_call 105;with_reducible refine(l0 _ _ (by omega) (by omega)).mono ?_;rintro e a ⟨rfl,rfl⟩)|(go_at_call 105;with_reducible refine(l8 _ _ (by omega) (by omega)).mono ?_;rintro e a ⟨rfl,rfl⟩)|(go_at_call 105;with_reducible refine(fU _ _ (by omega) (by omega)).mono ?_;rintro e a ⟨rfl,rfl⟩))
     go_ret;exact⟨by rw[Hid.out g];rfl,rfl⟩
   ·have g:Hid (y6 yH s 0=k):=by rw[Hid.out H,gM c];rfl
    go_wp2_with (first|(go_at_call 105;with_reducible refine(kq _ _ (by omega) (by omega)).mono ?_;rintro e a ⟨rfl,rfl⟩)|(go_at_call 105;with_reducible refine(l0 _ _ (by omega) (by omega)).mono ?_;rintro e a ⟨rfl,rfl⟩)|(go_at_call 105;with_reducible refine(l8 _ _ (by omega) (by omega)).mono ?_;rintro e a ⟨rfl,rfl⟩)|(go_at_call 105;with_reducible refine(fU _ _ (by omega) (by omega)).mono ?_;rintro e a ⟨rfl,rfl⟩))
    go_ret;exact⟨by rw[Hid.out g];rfl,rfl⟩
theorem Gn(s:ByteArray)(w:World)(hs:s.size<=500)(n:0<s.size)(j:rZ s)(h:Sj (QE s 0)=false)(p:yH (QE s 0)=false)(o:mZ (QE s 0)=true):
  Calls prog 106 #[.string s] w fun e a=>e=ε (ι (y6 Rc s 0))/\a=w:=by
 have l:=fa s 0;have i:=vX n;rw[i] at l h p o;rcases j with j|⟨m,j⟩
 all_goals
  go_enter func106,ntmps106;go_wp2_with (first|(go_at_call 105;with_reducible refine(kq _ _ (by omega) (by omega)).mono ?_;rintro e a ⟨rfl,rfl⟩)|(go_at_call 105;with_reducible refine(l0 _ _ (by omega) (by omega)).mono ?_;rintro e a ⟨rfl,rfl⟩)|(go_at_call 105;with_reducible refine(l8 _ _ (by omega) (by omega)).mono ?_;rintro e a ⟨rfl,rfl⟩)|(go_at_call 105;with_reducible refine(fU _ _ (by omega) (by omega)).mono ?_;rintro e a ⟨rfl,rfl⟩))
  go_loop [3] (fun t=>∃k:Nat,k<=s.size/\t=ι k/\Hid (y6 Rc s 0=y6 Rc s k)) (fun t=>s.size-(intOf t).toNat)
  case atStart=>exact⟨0,zv _,rfl,rfl⟩
  case round=>
   obtain⟨k,q,rfl,H⟩:=hrel;by_cases c:k<s.size
   ·have d:=vX c;have f:=fa s k;cases b:Rc (QE s k) with
    |true=>
     have g:Hid (y6 Rc s 0=y6 Rc s (k+1)):=by rw[Hid.out H,lF c b];rfl
     rw[d] at b f;go_wp2_with (first|(go_at_call 105;with_reducible refine(kq _ _ (by omega) (by omega)).mono ?_;rintro e a ⟨rfl,rfl⟩)|(go_at_call 105;with_reducible refine(l0 _ _ (by omega) (by omega)).mono ?_;rintro e a ⟨rfl,rfl⟩)|(go_at_call 105;with_reducible refine(l8 _ _ (by omega) (by omega)).mono ?_;rintro e a ⟨rfl,rfl⟩)|(go_at_call 105;with_reducible refine(fU _ _ (by omega) (by omega)).mono ?_;rintro e a ⟨rfl,rfl⟩))
     go_round
     case rel=>exact⟨k+1,by omega,by go_num,g⟩
     case measure=>simp[intOf];omega
    |false=>
     have g:Hid (y6 Rc s 0=k):=by rw[Hid.out H,m4 b];rfl
     rw[d] at b f;go_wp2_with (first|(go_at_call 105;with_reducible refine(kq _ _ (by omega) (by omega)).mono ?_;rintro e a ⟨rfl,rfl⟩)|(go_at_call 105;with_reducible refine(l0 _ _ (by omega) (by omega)).mono ?_;rintro e a ⟨rfl,rfl⟩)|(go_at_call 105;with_reducible refine(l8 _ _ (by omega) (by omega)).mono ?_;rintro e a ⟨rfl,rfl⟩)|(go_at_call 105;with_reducible refine(fU _ _ (by omega) (by omega)).mono ?_;rintro e a ⟨rfl,rfl⟩))
     go_ret;exact⟨by rw[Hid.out g];rfl,rfl⟩
   ·have g:Hid (y6 Rc s 0=k):=by rw[Hid.out H,gM c];rfl
    go_wp2_with (first|(go_at_call 105;with_reducible refine(kq _ _ (by omega) (by omega)).mono ?_;rintro e a ⟨rfl,rfl⟩)|(go_at_call 105;with_reducible refine(l0 _ _ (by omega) (by omega)).mono ?_;rintro e a ⟨rfl,rfl⟩)|(go_at_call 105;with_reducible refine(l8 _ _ (by omega) (by omega)).mono ?_;rintro e a ⟨rfl,rfl⟩)|(go_at_call 105;with_reducible refine(fU _ _ (by omega) (by omega)).mono ?_;rintro e a ⟨rfl,rfl⟩))
    go_ret;exact⟨by rw[Hid.out g];rfl,rfl⟩
theorem Pu(s:ByteArray)(w:World)(hs:s.size<=500)(g:0<s.size)(c:rZ s)(h:Sj (QE s 0)=false)(j:yH (QE s 0)=false)(i:mZ (QE s 0)=false):
  Calls prog 106 #[.string s] w fun e a=>e=ε (ι (0))/\a=w:=by
 have d:=fa s 0;have b:=vX g;rw[b] at d h j i;rcases c with c|⟨f,c⟩
 all_goals
  go_enter func106,ntmps106;go_wp2_with (first|(go_at_call 105;with_reducible refine(kq _ _ (by omega) (by omega)).mono ?_;rintro e a ⟨rfl,rfl⟩)|(go_at_call 105;with_reducible refine(l0 _ _ (by omega) (by omega)).mono ?_;rintro e a ⟨rfl,rfl⟩)|(go_at_call 105;with_reducible refine(l8 _ _ (by omega) (by omega)).mono ?_;rintro e a ⟨rfl,rfl⟩)|(go_at_call 105;with_reducible refine(fU _ _ (by omega) (by omega)).mono ?_;rintro e a ⟨rfl,rfl⟩))
  go_ret;exact⟨rfl,rfl⟩
theorem Sh(s:ByteArray)(w:World)(hs:s.size<=500)(f:0<s.size):
  Calls prog 106 #[.string s] w fun e j=>e=ε (ι (xg s))/\j=w:=by
 by_cases a:QE s 0=58/\QE s 1=45
 ·refine IT s w hs ?_ a.1 a.2;false_or_by_contra;rename_i d;rw[nw d] at a;omega
 ·have d:=Jx s a;cases h:Sj (QE s 0) with
  |true=>
   have:=I5 s w hs f d h;have e:xg s=1:=by
    unfold xg xa;simp only[Sj,dX,beq_iff_eq] at h;rcases h with (((h|h)|h)|h)|h<;>rw[h]<;>rfl
   rw[e];exact this
  |false=>
   have i:gQ (QE s 0)=0:=by
    simp only[Sj,nX,beq_eq_false_iff_ne] at h;unfold gQ;simp[h]
   cases c:yH (QE s 0) with
   |true=>
    have:=Jc s w hs f d h c;have e:xg s=y6 yH s 0:=by
     have g:yR (QE s 0)=false:=by simp[yH,yR] at c ⊢;omega
     have k:vO (QE s 0)=false:=by simp[yH,vO] at c ⊢;omega
     unfold xg xa;simp[g,k,c,yi]
    rw[e];exact this
   |false=>
    cases b:mZ (QE s 0) with
    |true=>
     have:=Gn s w hs f d h c b;have e:xg s=y6 Rc s 0:=by
      unfold xg xa;simp only[mZ,dX] at b;cases g:yR (QE s 0) with
      |true=>simp[yi]
      |false=>rw[g] at b;simp at b;simp[b,yi]
     rw[e];exact this
    |false=>
     have:=Pu s w hs f d h c b;have e:xg s=0:=by
      simp only[mZ,nX] at b;unfold xg xa;simp[b.1,b.2,c,a,i,yi]
     rw[e];exact this
end
section
open Go.Proofs.Tryz Go.RowKit
variable {n:Nat}{s:ByteArray}{o:Option (κ)}
def xe:Nat->ByteArray->Option (κ)
 |0,_=>some []
 |n+1,s=>if s.size=0 then some [] else if qG (QE s 0) then xe n (s.extract 1 s.size) else if xg s=0 then none else if 6<xg s then none
  else(xe n (s.extract (xg s) s.size)).map (s.extract 0 (xg s)::·)
theorem wR(h:s.size=0):xe n s=some []:=by cases n<;>simp[xe,h]
theorem C4(h:0<s.size)(a:qG (QE s 0)=true):xe (n+1) s=xe n (s.extract 1 s.size):=by simp[xe,Nat.ne_of_gt h,a]
theorem iD(h:0<s.size)(b:qG (QE s 0)=false)(a:xg s=0∨6<xg s):xe (n+1) s=none:=by
 simp only[xe,za (Nat.ne_of_gt h),b];rcases a with a|a
 ·simp[a]
 ·simp[a]
theorem B8(h:0<s.size)(c:qG (QE s 0)=false)(b:xg s≠0)(a:¬6<xg s):xe (n+1) s=(xe n (s.extract (xg s) s.size)).map (s.extract 0 (xg s)::·):=by
 simp[xe,Nat.ne_of_gt h,c,b,a]
theorem NN(h:6<xg s):QE s 0≠58/\Sj (QE s 0)=false:=by
 unfold xg xa at h;refine⟨fun c=>?_,?_⟩
 ·rw[c] at h;by_cases b:QE s 1=45
  ·rw[b] at h;simp[yR,vO,yH,yi] at h
  ·simp[yR,vO,yH,yi,b,gQ] at h
 ·false_or_by_contra
  rename_i a;simp only[sc,Sj,dX,beq_iff_eq] at a;rcases a with (((a|a)|a)|a)|a<;>(rw[a] at h;simp[yR,vO,yH,yi,gQ] at h)
theorem LZ(s:ByteArray)(a:0<s.size):xg s<=s.size:=by
 unfold xg;by_cases h:xa (QE s 0) (QE s 1)=0
 ·rw[h];simp[yi]
 ·exact(rP s 0 _ a rfl h).2
def eJ(o:Option (κ))(w:World)(e:Ending)(w':World):Prop:=
 μ w w'/\match o with
  |none=>e=ε (.tuple #[ν,.bool false])
  |some l=>∃v,e=ε (.tuple #[v,.bool true])/\w'.ownsRow w.heap.size 9 1 v l.length (l.map Value.string)
theorem ix{w w':World}(h:Hid (o=none))(b:μ w w'):eJ o w (ε (.tuple #[ν,.bool false])) w':=by
 have a:o=none:=h;subst a;exact⟨b,rfl⟩
theorem Ll{w w':World}{l:κ}{v:Value}(h:Hid (o=some l))(b:μ w w')(c:w'.ownsRow w.heap.size 9 1 v l.length (l.map Value.string)):eJ o w (ε (.tuple #[v,.bool true])) w':=by
 have a:o=some l:=h;subst a;exact⟨b,v,rfl,c⟩
theorem tL(s:ByteArray)(w:World)(hs:s.size<=500):
  Calls prog 65 #[.string s] w fun e d=>eJ (xe s.size s) w e d:=by
 obtain⟨S,Q,B,L,C⟩:=info_parts Qq;go_enter func65,ntmps65;go_wp2;go_loopg [0,4] (s.size) (fun n u v wr=>∃(a:ByteArray) (b:κ) (m:Nat),u=.string a/\a.size<=n/\a.size<=m/\b.length+a.size<=s.size/\Hid (xe s.size s=(xe m a).map (b++·)) ∧
   wr.ownsRow w.heap.size 9 1 v b.length (b.map Value.string)/\μ w wr)
 case atStart=>exact⟨s,[],s.size,rfl,zg _,zg _,by simp,(by simp[Hid]),yC _ _ _ _,zo _ _⟩
 case round=>
  obtain⟨a,b,m,rfl,U,T,O,H,j,g⟩:=hrel;by_cases t:0<a.size
  ·have l:=fa a 0;have f:=vX t;have E:(a.toList == [])=false:=by
    rw[l7,beq_eq_false_iff_ne];intro h;have:a.data.toList.length=a.size:=ny;rw[h] at this;simp at this;omega
   obtain⟨m,rfl⟩:∃R,m=R+1:=⟨m-1,by omega⟩;cases r:qG (QE a 0) with
   |true=>
    have p:Hid (xe s.size s=(xe m (a.extract 1 a.size)).map (b++·)):=by rw[Hid,H.out,C4 t r]
    have y:(a.extract 1 a.size).size=a.size-1:=by rw[ByteArray.size_extract];omega
    rw[f] at r l;clear H f;go_wp2_with (go_at_call 105;with_reducible refine(pe _ _ (by omega) (by omega)).mono ?_;rintro e d ⟨rfl,rfl⟩)
    go_roundg (a.size-1)
    case measure=>omega
    case rel=>exact⟨_,b,m,rfl,by omega,by omega,by omega,p,j,g⟩
   |false=>
    have i:=Q5 fun W=>Sh a W (by omega) t;have G:=LZ a t;by_cases k:xg a=0∨6<xg a
    ·have p:Hid (xe s.size s=none):=by rw[Hid,H.out,iD t r k];rfl
     rcases k with k|k
     ·rw[k] at i;rw[f] at r l;clear H f k G;by_cases c:((a[0].toNat:Int) == 58)=true
      ·go_wp2_with (first|(go_at_call 105;with_reducible refine(pe _ _ (by omega) (by omega)).mono ?_;rintro e d ⟨rfl,rfl⟩)|(go_at_call 105;with_reducible refine(kq _ _ (by omega) (by omega)).mono ?_;rintro e d ⟨rfl,rfl⟩)|(go_at_call 106;refine(i.out _).mono ?_;rintro e d ⟨rfl,rfl⟩))
       go_ret2
       exact ix p g
      ·have q:((a[0].toNat:Int) == 58)=false:=by simpa using c
       clear c;go_wp2_with (first|(go_at_call 105;with_reducible refine(pe _ _ (by omega) (by omega)).mono ?_;rintro e d ⟨rfl,rfl⟩)|(go_at_call 105;with_reducible refine(kq _ _ (by omega) (by omega)).mono ?_;rintro e d ⟨rfl,rfl⟩)|(go_at_call 106;refine(i.out _).mono ?_;rintro e d ⟨rfl,rfl⟩))
       go_ret2
       exact ix p g
     ·obtain⟨c,F⟩:=NN k;rw[f] at r l c F;have q:((a[0].toNat:Int) == 58)=false:=by simpa using c
      clear H f c;generalize xg a=x at *;have I:((x:Int) == 0)=false:=by rw[beq_eq_false_iff_ne];omega
      go_wp2_with (first|(go_at_call 105;with_reducible refine(pe _ _ (by omega) (by omega)).mono ?_;rintro e d ⟨rfl,rfl⟩)|(go_at_call 105;with_reducible refine(kq _ _ (by omega) (by omega)).mono ?_;rintro e d ⟨rfl,rfl⟩)|(go_at_call 106;refine(i.out _).mono ?_;rintro e d ⟨rfl,rfl⟩))
      go_ret2
      exact ix p g
    ·have A:xg a≠0:=fun h=>k (zf h);have z:¬6<xg a:=fun h=>k (zb h);have p:Hid (xe s.size s=(xe m (a.extract (xg a) a.size)).map ((b++[a.extract 0 (xg a)])++·)):=by rw[Hid,H.out,B8 t r A z,rI]
     rw[f] at r l;clear H f k;generalize xg a=x at *;have I:((x:Int) == 0)=false:=by rw[beq_eq_false_iff_ne];omega
     have y:(a.extract x a.size).size=a.size-x:=by rw[ByteArray.size_extract];omega
     by_cases c:((a[0].toNat:Int) == 58)=true;rotate_left
     have q:((a[0].toNat:Int) == 58)=false:=by simpa using c
     clear c
     all_goals
      go_wp2_with (first|(go_at_call 105;with_reducible refine(pe _ _ (by omega) (by omega)).mono ?_;rintro e d ⟨rfl,rfl⟩)|(go_at_call 105;with_reducible refine(kq _ _ (by omega) (by omega)).mono ?_;rintro e d ⟨rfl,rfl⟩)|(go_at_call 106;refine(i.out _).mono ?_;rintro e d ⟨rfl,rfl⟩)|(at_builtin;refine ks _ _ _ _ rfl (.tmp 34) (.tmp 38) 30 rfl w.heap.size 9 S _ 1 16 underlying30 Q B L C rfl (by decide) _ _ _ rfl j (zo _ _) _ _ rfl (by simp) rfl (by simp[Value.oneCell']) (by omega) (by omega) g.size ?_;intro X V M K D J P N;clear D J))
      go_roundg (a.size-1)
      case measure=>omega
      case rel=>exact⟨_,b++[a.extract 0 x],m,rfl,by omega,by omega,by simp;omega,p,by simpa using M,g.trans K⟩
  ·have y:a.size=0:=by omega
   have p:Hid (xe s.size s=some b):=by rw[Hid,H.out,wR y];simp
   have E:(a.toList == [])=true:=by
    rw[l7,beq_iff_eq];exact rW (by rw[ny];exact y)
   clear H;go_wp2_with (first|(go_at_call 105;with_reducible refine(pe _ _ (by omega) (by omega)).mono ?_;rintro e d ⟨rfl,rfl⟩)|(go_at_call 105;with_reducible refine(kq _ _ (by omega) (by omega)).mono ?_;rintro e d ⟨rfl,rfl⟩)|(go_at_call 106;refine(i.out _).mono ?_;rintro e d ⟨rfl,rfl⟩))
   go_ret2
   exact Ll p g j
end
section
open Go.Proofs.Tryz Go.RowKit
variable {w:World}{v:Value}{l:κ}
def SV(w:World)(v:Value)(l:κ):Prop:=∃c a,v=.slice c l.length a/\l.length<=a ∧
 ((c=none/\a=0)∨∃b o,c=some ⟨b,o,none⟩/\b<w.heap.size/\∀k (d:k<l.length),w.cell? ⟨b,o+k,none⟩=some (.string l[k]))
theorem SV.of{b:Nat}(h:w.ownsRow b 9 1 v l.length (l.map Value.string)):SV w v l:=by
 have j:=h;obtain⟨_,⟨c,m⟩|⟨g,e,p,c,_,n,i,_⟩⟩:=h
 ·refine⟨none,0,?_,by omega,zf ⟨rfl,rfl⟩⟩;rw[c,m]
 ·refine⟨_,e,c,i,zb ⟨g,0,rfl,(kQ.1 n).1,fun k o=>?_⟩⟩;obtain⟨q,f,a,_,_,d⟩:=yv j (by omega);rw[c] at a;simp at a;obtain⟨rfl,_⟩:=a;rw[vz];exact d k _ (by simp[o])
theorem SV.qx(h:SV w v l):∃b a,v=.slice b l.length a:=by obtain⟨b,a,c,_⟩:=h;exact⟨b,a,c⟩
theorem SV.below{w':World}(h:SV w v l)(f:μ w w'):SV w' v l:=by
 obtain⟨m,d,j,g,e⟩:=h;refine⟨m,d,j,g,?_⟩;rcases e with e|⟨b,o,i,a,c⟩
 ·exact zf e
 ·exact zb ⟨b,o,i,xP a f.size,fun k n=>(f.cell (p:=⟨b,o+k,none⟩) a).trans (c k n)⟩
theorem SV.cell{w:World}{e:Option Addr}{n cap:Nat}{l:κ}(h:SV w (.slice e n cap) l)(k:Nat)(j:k<l.length):∃b o,e=some ⟨b,o,none⟩/\b<w.heap.size/\w.cell? ⟨b,o+k,none⟩=some (.string l[k]):=by
 obtain⟨m,g,d,p,f⟩:=h;simp at d;obtain⟨rfl,_,rfl⟩:=d;rcases f with⟨_,f⟩|⟨b,o,i,c,a⟩
 ·omega
 ·exact⟨b,o,i,c,a k j⟩
theorem SV.cells{e:Option Addr}{n cap:Nat}(h:SV w (.slice e n cap) l)(p:0<l.length):∃b o,e=some ⟨b,o,none⟩/\b<w.heap.size/\∀k (q:k<l.length),w.cell? ⟨b,o+k,none⟩=some (.string l[k]):=by
 obtain⟨j,g,d,m,f⟩:=h;simp at d;obtain⟨rfl,_,rfl⟩:=d;rcases f with⟨_,f⟩|⟨b,o,i,c,a⟩
 ·omega
 ·exact⟨b,o,i,c,a⟩
section
variable {P:Program} {ops:Array Oper} {rest:List Oper} {o:Oper} {a:Act} {Q:Exit->Act->World->Prop}
theorem jo(w G:World)(O:o.guard=none)(x:Operand)(t e:TypeId)(lo h:Option Operand)(z:o.op=.slice t x lo h none)
  (S:P.underlying t=some (.slice e)) (y:TypeInfo) (H:P.info? e=some y) (C:P.cellsOf e=1) (v:Value) (l:κ) (V:a.eval x=v) (U:SV G v l)
  (i j:Nat) (r:lo.map a.eval=none/\i=0∨lo.map a.eval=some (ι (i:Int))) (q:h.map a.eval=none/\j=l.length∨h.map a.eval=some (ι (j:Int))) (M:i<=j) (X:j<=l.length) (n:Nat) (T:j-i=n)
  (N:∀f c,SV G (.slice f n c) ((l.drop i).take n)->wpList P ops Q rest (a.put o.dst (.slice f n c)) w):wpList P ops Q (o::rest) a w:=by
 subst T;obtain⟨f,c,rfl,W,J⟩:=U;have I:(j:Int)<=(c:Int):=by omega
 have L:(i:Int)<=(j:Int):=by omega
 have R:(Instr.sliceBounds true l.length c (lo.map a.eval) (h.map a.eval) none).run P w=.ok (i,j,c) w:=by
  rcases r with⟨E,rfl⟩|E<;>rcases q with⟨F,rfl⟩|F<;>rw[E,F]<;>simp[Instr.sliceBounds,run_sliceBound,I,L]
 refine wpList_plain O fun K A=>?_;unfold Oper.wp;have d:((l.drop i).take (j-i)).length=j-i:=by simp;omega
 have u:(sizeOf e).run P w=.ok 1 w:=by rw[←C];simp[sizeOf,typeInfo,Program.cellsOf,H]
 have m:(Instr.sliceAt t (.slice f l.length c) (lo.map a.eval) (h.map a.eval) none).run P w=.ok (.slice (if c=i then f else f.map (·.add (i*1))) (j-i) (c-i)) w:=by
  simp[Instr.sliceAt,run_underlying S,Instr.slice,R,u]
 simp only[execOp,z,V,Option.map_none,m,Sem.run_bind,Result.andThen];simp;refine A _ _ (N _ _ ?_);refine⟨_,_,by rw[d],by rw[d];omega,?_⟩;rcases J with⟨rfl,rfl⟩|⟨b,D,rfl,p,B⟩
 ·left;exact⟨by split<;>rfl,by omega⟩
 ·right;by_cases g:c=i
  ·refine⟨b,D,by rw[zc g],p,fun k s=>?_⟩;rw[d] at s;omega
  ·refine⟨b,D+i,?_,p,fun k s=>?_⟩
   ·rw[za g];simp[Addr.add_lit]
   ·rw[d] at s;rw[Nat.add_assoc,B (i+k) (by omega)];simp
end
theorem PS:prog.cellsOf 9=1:=by kernel_rfl
end
section
open Go.RowKit
variable {lo:Nat}{l:κ}
def gB(l:κ)(i:Nat):ByteArray:=l.getD i ByteArray.empty
theorem xx{i:Nat}(h:i<l.length):l[i]=gB l i:=by simp[gB,h]
def Ss(l:κ)(i:Nat):Bool:=if i%2=0 then Rc (QE (gB l i) 0) else((gB l i).toList == [44])
def uP(l:κ):Nat->κ
 |0=>[]
 |i+1=>uP l i++(if 2<=i/\i%2=0 then [gB l i] else [])
theorem oh(l:κ):∀i,(uP l i).length<=i
 |0=>zg _
 |i+1=>by have:=oh l i;unfold uP;split<;>simp<;>omega
def qe(l:κ):Nat->Bool
 |0=>true
 |i+1=>qe l i&&(decide (i<2)||Ss l i)
theorem A9{i:Nat}(h:qe l i=false):∀k,i<=k->qe l k=false:=by
 intro k c;induction k with
 |zero=>
  have:i=0:=by omega
  subst this;exact h
 |succ k b=>
  rcases dI k i with a|a
  ·have:i=k+1:=by omega
   subst this;exact h
  ·simp[qe,b a]
def xi(neg:Bool)(l:κ):Option zj:=
 if l.length=0 then none else if yR (QE (gB l 0) 0)=false then none else if l.length=1 then some ⟨neg,gB l 0,[]⟩
 else if l.length<4∨l.length%2=1∨((gB l 1).toList == [40])=false∨((gB l (l.length-1)).toList == [41])=false then none
 else if qe l (l.length-1) then some ⟨neg,gB l 0,uP l (l.length-1)⟩ else none
def Rp(l:κ)(a:Bool):Bool:=decide (0<l.length)&&((gB l 0).toList == [33])&&!a
def jD(l:κ)(a:Bool):Option zj:=if Rp l a then xi true l.tail else xi false l
def j4(o:Option zj)(w:World)(e:Ending)(w':World):Prop:=
 μ w w'/\match o with
  |none=>∃b p f n c,e=ε (.tuple #[.agg #[.bool b,.string p,.slice f n c],.bool false])
  |some a=>∃d,e=ε (.tuple #[.agg #[.bool a.neg,.string a.pred,d],.bool true])/\QD w.heap.size w' d a.args
theorem mH{a:Bool}(b:Rp l a=false):¬0<l.length∨(0<l.length/\((gB l 0).toList == [33])=false)∨((0<l.length/\((gB l 0).toList == [33])=true)/\a=true):=by
 by_cases c:0<l.length
 ·right;simp only[Rp,decide_eq_true c,mY,tX] at b;cases h:((gB l 0).toList == [33]) with
  |false=>exact zf ⟨c,rfl⟩
  |true=>rw[h] at b;simp at b;exact zb ⟨⟨c,rfl⟩,b⟩
 ·exact zf c
end
section
open Go.Proofs.Tryz Go.RowKit
theorem Gp(w:World)(v:Value)(L:κ)(b:Bool)(c:SV w v L)(d:∀y∈L,0<y.size)(g:L.length<=500)(h:Rp L b=false)(k:L.length=0):
  Calls prog 152 #[v,.bool b] w fun e j=>j4 none w e j:=by
 have a:=mH h;obtain⟨i,f,rfl⟩:=c.qx;rcases a with a|⟨a,_⟩|⟨⟨a,_⟩,rfl⟩
 ·go_enter func152,ntmps152;go_wp2;exact zL (v:=.tuple #[.agg #[.bool false,.string ByteArray.empty,ν],.bool false]) (by simp[results,results152,go_sem];try rfl) rfl ⟨(by go_grown),_,_,_,_,_,rfl⟩
 ·omega
 ·omega
theorem I2(w:World)(v:Value)(L:κ)(c:Bool)(d:SV w v L)(g:∀y∈L,0<y.size)(m:L.length<=500)(n:Rp L c=false)(q:¬L.length=0)(hs:yR (QE (gB L 0) 0)=false):
  Calls prog 152 #[v,.bool c] w fun e j=>j4 none w e j:=by
 have a:=mH n;obtain⟨p,l,rfl⟩:=d.qx;have i:0<(gB L 0).size:=by rw[←xx (by omega:0<L.length)];exact g _ (zs _)
 obtain⟨b,o,rfl,k,h⟩:=d.cells (by omega);have f:=h 0 (by omega);rw[xx (by omega)] at f;rw[uV] at f;rcases a with a|⟨_,a⟩|⟨⟨_,a⟩,rfl⟩
 ·omega
 all_goals
  go_enter func152,ntmps152;go_wp2_with (go_at_call 184;refine(kZ _ _ i).mono ?_;rintro e j ⟨rfl,rfl⟩)
  exact zL (v:=.tuple #[.agg #[.bool false,.string ByteArray.empty,ν],.bool false]) (by simp[results,results152,go_sem];try rfl) rfl ⟨(by go_grown),_,_,_,_,_,rfl⟩
theorem Ko(w:World)(v:Value)(L:κ)(c:Bool)(d:SV w v L)(g:∀y∈L,0<y.size)(m:L.length<=500)(n:Rp L c=false)(r:¬L.length=0)(hs:yR (QE (gB L 0) 0)=true)(p:L.length=1):
  Calls prog 152 #[v,.bool c] w fun e j=>j4 (some ⟨false,gB L 0,[]⟩) w e j:=by
 have a:=mH n;obtain⟨q,l,rfl⟩:=d.qx;have i:0<(gB L 0).size:=by rw[←xx (by omega:0<L.length)];exact g _ (zs _)
 obtain⟨b,o,rfl,k,h⟩:=d.cells (by omega);have f:=h 0 (by omega);rw[xx (by omega)] at f;rw[uV] at f;rcases a with a|⟨_,a⟩|⟨⟨_,a⟩,rfl⟩
 ·omega
 all_goals
  go_enter func152,ntmps152;go_wp2_with (go_at_call 184;refine(kZ _ _ i).mono ?_;rintro e j ⟨rfl,rfl⟩)
  exact zL (v:=.tuple #[.agg #[.bool false,.string (gB L 0),ν],.bool true]) (by simp[results,results152,go_sem]) rfl ⟨(by go_grown),_,rfl,QD.nil _⟩
theorem N5(w:World)(v:Value)(L:κ)(c:Bool)(d:SV w v L)(g:∀y∈L,0<y.size)(m:L.length<=500)(n:Rp L c=false)(s:¬L.length=0)(hs:yR (QE (gB L 0) 0)=true)(q:¬L.length=1)(p:L.length<4):
  Calls prog 152 #[v,.bool c] w fun e j=>j4 none w e j:=by
 have a:=mH n;obtain⟨r,l,rfl⟩:=d.qx;have i:0<(gB L 0).size:=by rw[←xx (by omega:0<L.length)];exact g _ (zs _)
 obtain⟨b,o,rfl,k,h⟩:=d.cells (by omega);have f:=h 0 (by omega);rw[xx (by omega)] at f;rw[uV] at f;rcases a with a|⟨_,a⟩|⟨⟨_,a⟩,rfl⟩
 ·omega
 all_goals
  go_enter func152,ntmps152;go_wp2_with (go_at_call 184;refine(kZ _ _ i).mono ?_;rintro e j ⟨rfl,rfl⟩)
  exact zL (v:=.tuple #[.agg #[.bool false,.string (gB L 0),ν],.bool false]) (by simp[results,results152,go_sem];try rfl) rfl ⟨(by go_grown),_,_,_,_,_,rfl⟩
theorem LV(w:World)(v:Value)(L:κ)(c:Bool)(d:SV w v L)(g:∀y∈L,0<y.size)(m:L.length<=500)(n:Rp L c=false)(t:¬L.length=0)(hs:yR (QE (gB L 0) 0)=true)(q:¬L.length=1)(p:¬L.length<4)(r:L.length%2=1):
  Calls prog 152 #[v,.bool c] w fun e j=>j4 none w e j:=by
 have a:=mH n;obtain⟨s,l,rfl⟩:=d.qx;have i:0<(gB L 0).size:=by rw[←xx (by omega:0<L.length)];exact g _ (zs _)
 obtain⟨b,o,rfl,k,h⟩:=d.cells (by omega);have f:=h 0 (by omega);rw[xx (by omega)] at f;rw[uV] at f;rcases a with a|⟨_,a⟩|⟨⟨_,a⟩,rfl⟩
 ·omega
 all_goals
  go_enter func152,ntmps152;go_wp2_with (go_at_call 184;refine(kZ _ _ i).mono ?_;rintro e j ⟨rfl,rfl⟩)
  exact zL (v:=.tuple #[.agg #[.bool false,.string (gB L 0),ν],.bool false]) (by simp[results,results152,go_sem];try rfl) rfl ⟨(by go_grown),_,_,_,_,_,rfl⟩
theorem KK(w:World)(v:Value)(L:κ)(c:Bool)(f:SV w v L)(j:∀y∈L,0<y.size)(q:L.length<=500)(r:Rp L c=false)(x:¬L.length=0)(hs:yR (QE (gB L 0) 0)=true)(n:¬L.length=1)(p:¬L.length<4)(t:¬L.length%2=1)(s:((gB L 1).toList == [40])=false):
  Calls prog 152 #[v,.bool c] w fun e m=>j4 none w e m:=by
 have a:=mH r;obtain⟨u,k,rfl⟩:=f.qx;have i:0<(gB L 0).size:=by rw[←xx (by omega:0<L.length)];exact j _ (zs _)
 obtain⟨b,o,rfl,l,g⟩:=f.cells (by omega);have d:=g 0 (by omega);have h:=g 1 (by omega);rw[xx (by omega)] at d h;rw[uV] at d;rcases a with a|⟨_,a⟩|⟨⟨_,a⟩,rfl⟩
 ·omega
 all_goals
  go_enter func152,ntmps152;go_wp2_with (go_at_call 184;refine(kZ _ _ i).mono ?_;rintro e m ⟨rfl,rfl⟩)
  exact zL (v:=.tuple #[.agg #[.bool false,.string (gB L 0),ν],.bool false]) (by simp[results,results152,go_sem];try rfl) rfl ⟨(by go_grown),_,_,_,_,_,rfl⟩
theorem Ge(w:World)(v:Value)(L:κ)(c:Bool)(g:SV w v L)(k:∀y∈L,0<y.size)(r:L.length<=500)(s:Rp L c=false)(A:¬L.length=0)(hs:yR (QE (gB L 0) 0)=true)(p:¬L.length=1)(q:¬L.length<4)(x:¬L.length%2=1)(u:((gB L 1).toList == [40])=true)(t:((gB L (L.length-1)).toList == [41])=false):
  Calls prog 152 #[v,.bool c] w fun e n=>j4 none w e n:=by
 have a:=mH s;obtain⟨z,l,rfl⟩:=g.qx;have i:0<(gB L 0).size:=by rw[←xx (by omega:0<L.length)];exact k _ (zs _)
 obtain⟨b,o,rfl,m,d⟩:=g.cells (by omega);have f:=d 0 (by omega);have h:=d 1 (by omega);have j:=d (L.length-1) (by omega);rw[xx (by omega)] at f h j;rw[uV] at f;rcases a with a|⟨_,a⟩|⟨⟨_,a⟩,rfl⟩
 ·omega
 all_goals
  go_enter func152,ntmps152;go_wp2_with (go_at_call 184;refine(kZ _ _ i).mono ?_;rintro e n ⟨rfl,rfl⟩)
  exact zL (v:=.tuple #[.agg #[.bool false,.string (gB L 0),ν],.bool false]) (by simp[results,results152,go_sem];try rfl) rfl ⟨(by go_grown),_,_,_,_,_,rfl⟩
theorem Lg(w:World)(v:Value)(x:ByteArray)(L:κ)(c:SV w v (x::L))(i:∀y∈L,0<y.size)(z:(x.toList == [33])=true)(n:L.length<=500)(r:L.length=0):
  Calls prog 152 #[v,.bool false] w fun e o=>j4 none w e o:=by
 obtain⟨s,l,j,q,k⟩:=info_parts Qq;obtain⟨m,h,rfl⟩:=c.qx;obtain⟨u,t,rfl,b,a⟩:=c.cells (by simp);have f:=a 0 (by simp);rw[uV,gG] at f;go_enter func152,ntmps152;go_wp2_with (refine jo _ w rfl (.tmp 26) 30 9 (some (.const (ι 1))) none rfl underlying30 s l PS _ (x::L) rfl c 1 (L.length+1) (zb rfl) (zf ⟨rfl,rfl⟩) (by omega) (by simp) L.length (by omega) ?_;intro p g d;simp only[l5,gU,vw] at d)
 exact zL (v:=.tuple #[.agg #[.bool true,.string ByteArray.empty,ν],.bool false]) (by simp[results,results152,go_sem];try rfl) rfl ⟨(by go_grown),_,_,_,_,_,rfl⟩
theorem Gt(w:World)(v:Value)(x:ByteArray)(L:κ)(j:SV w v (x::L))(h:∀y∈L,0<y.size)(G:(x.toList == [33])=true)(u:L.length<=500)(C:¬L.length=0)(hs:yR (QE (gB L 0) 0)=false):
  Calls prog 152 #[v,.bool false] w fun e p=>j4 none w e p:=by
 obtain⟨D,s,q,B,r⟩:=info_parts Qq;obtain⟨t,n,rfl⟩:=j.qx;obtain⟨F,E,rfl,i,c⟩:=j.cells (by simp);have k:=c 0 (by simp);rw[uV,gG] at k;have g:0<(gB L 0).size:=by rw[←xx (by omega:0<L.length)];exact h _ (zs _)
 go_enter func152,ntmps152;go_wp2_with (first|(refine jo _ w rfl (.tmp 26) 30 9 (some (.const (ι 1))) none rfl underlying30 D s PS _ (x::L) rfl j 1 (L.length+1) (zb rfl) (zf ⟨rfl,rfl⟩) (by omega) (by simp) L.length (by omega) ?_;intro A l f;simp only[l5,gU,vw] at f;obtain⟨b,o,rfl,m,a⟩:=f.cells (by omega);have d:=a 0 (by omega);rw[xx (by omega)] at d;rw[uV] at d;have z:=Q5 a;clear a)|(go_at_call 184;refine(kZ _ _ g).mono ?_;rintro e p ⟨rfl,rfl⟩))
 exact zL (v:=.tuple #[.agg #[.bool true,.string ByteArray.empty,ν],.bool false]) (by simp[results,results152,go_sem];try rfl) rfl ⟨(by go_grown),_,_,_,_,_,rfl⟩
theorem J7(w:World)(v:Value)(x:ByteArray)(L:κ)(j:SV w v (x::L))(h:∀y∈L,0<y.size)(H:(x.toList == [33])=true)(z:L.length<=500)(D:¬L.length=0)(hs:yR (QE (gB L 0) 0)=true)(r:L.length=1):
  Calls prog 152 #[v,.bool false] w fun e p=>j4 (some ⟨true,gB L 0,[]⟩) w e p:=by
 obtain⟨E,t,q,C,s⟩:=info_parts Qq;obtain⟨u,n,rfl⟩:=j.qx;obtain⟨G,F,rfl,i,c⟩:=j.cells (by simp);have k:=c 0 (by simp);rw[uV,gG] at k;have g:0<(gB L 0).size:=by rw[←xx (by omega:0<L.length)];exact h _ (zs _)
 go_enter func152,ntmps152;go_wp2_with (first|(refine jo _ w rfl (.tmp 26) 30 9 (some (.const (ι 1))) none rfl underlying30 E t PS _ (x::L) rfl j 1 (L.length+1) (zb rfl) (zf ⟨rfl,rfl⟩) (by omega) (by simp) L.length (by omega) ?_;intro B l f;simp only[l5,gU,vw] at f;obtain⟨b,o,rfl,m,a⟩:=f.cells (by omega);have d:=a 0 (by omega);rw[xx (by omega)] at d;rw[uV] at d;have A:=Q5 a;clear a)|(go_at_call 184;refine(kZ _ _ g).mono ?_;rintro e p ⟨rfl,rfl⟩))
 exact zL (v:=.tuple #[.agg #[.bool true,.string (gB L 0),ν],.bool true]) (by simp[results,results152,go_sem]) rfl ⟨(by go_grown),_,rfl,QD.nil _⟩
theorem K4(w:World)(v:Value)(x:ByteArray)(L:κ)(j:SV w v (x::L))(h:∀y∈L,0<y.size)(I:(x.toList == [33])=true)(A:L.length<=500)(E:¬L.length=0)(hs:yR (QE (gB L 0) 0)=true)(r:¬L.length=1)(t:L.length<4):
  Calls prog 152 #[v,.bool false] w fun e p=>j4 none w e p:=by
 obtain⟨F,u,q,D,s⟩:=info_parts Qq;obtain⟨z,n,rfl⟩:=j.qx;obtain⟨H,G,rfl,i,c⟩:=j.cells (by simp);have k:=c 0 (by simp);rw[uV,gG] at k;have g:0<(gB L 0).size:=by rw[←xx (by omega:0<L.length)];exact h _ (zs _)
 go_enter func152,ntmps152;go_wp2_with (first|(refine jo _ w rfl (.tmp 26) 30 9 (some (.const (ι 1))) none rfl underlying30 F u PS _ (x::L) rfl j 1 (L.length+1) (zb rfl) (zf ⟨rfl,rfl⟩) (by omega) (by simp) L.length (by omega) ?_;intro C l f;simp only[l5,gU,vw] at f;obtain⟨b,o,rfl,m,a⟩:=f.cells (by omega);have d:=a 0 (by omega);rw[xx (by omega)] at d;rw[uV] at d;have B:=Q5 a;clear a)|(go_at_call 184;refine(kZ _ _ g).mono ?_;rintro e p ⟨rfl,rfl⟩))
 exact zL (v:=.tuple #[.agg #[.bool true,.string (gB L 0),ν],.bool false]) (by simp[results,results152,go_sem];try rfl) rfl ⟨(by go_grown),_,_,_,_,_,rfl⟩
theorem G9(w:World)(v:Value)(x:ByteArray)(L:κ)(j:SV w v (x::L))(h:∀y∈L,0<y.size)(J:(x.toList == [33])=true)(A:L.length<=500)(F:¬L.length=0)(hs:yR (QE (gB L 0) 0)=true)(r:¬L.length=1)(t:¬L.length<4)(C:L.length%2=1):
  Calls prog 152 #[v,.bool false] w fun e p=>j4 none w e p:=by
 obtain⟨G,u,q,D,s⟩:=info_parts Qq;obtain⟨z,n,rfl⟩:=j.qx;obtain⟨I,H,rfl,i,c⟩:=j.cells (by simp);have k:=c 0 (by simp);rw[uV,gG] at k;have g:0<(gB L 0).size:=by rw[←xx (by omega:0<L.length)];exact h _ (zs _)
 go_enter func152,ntmps152;go_wp2_with (first|(refine jo _ w rfl (.tmp 26) 30 9 (some (.const (ι 1))) none rfl underlying30 G u PS _ (x::L) rfl j 1 (L.length+1) (zb rfl) (zf ⟨rfl,rfl⟩) (by omega) (by simp) L.length (by omega) ?_;intro E l f;simp only[l5,gU,vw] at f;obtain⟨b,o,rfl,m,a⟩:=f.cells (by omega);have d:=a 0 (by omega);rw[xx (by omega)] at d;rw[uV] at d;have B:=Q5 a;clear a)|(go_at_call 184;refine(kZ _ _ g).mono ?_;rintro e p ⟨rfl,rfl⟩))
 exact zL (v:=.tuple #[.agg #[.bool true,.string (gB L 0),ν],.bool false]) (by simp[results,results152,go_sem];try rfl) rfl ⟨(by go_grown),_,_,_,_,_,rfl⟩
theorem Nv(w:World)(v:Value)(x:ByteArray)(L:κ)(k:SV w v (x::L))(i:∀y∈L,0<y.size)(M:(x.toList == [33])=true)(B:L.length<=500)(H:¬L.length=0)(hs:yR (QE (gB L 0) 0)=true)(s:¬L.length=1)(u:¬L.length<4)(E:¬L.length%2=1)(D:((gB L 1).toList == [40])=false):
  Calls prog 152 #[v,.bool false] w fun e q=>j4 none w e q:=by
 obtain⟨I,z,r,F,t⟩:=info_parts Qq;obtain⟨A,p,rfl⟩:=k.qx;obtain⟨K,J,rfl,j,c⟩:=k.cells (by simp);have l:=c 0 (by simp);rw[uV,gG] at l;have h:0<(gB L 0).size:=by rw[←xx (by omega:0<L.length)];exact i _ (zs _)
 go_enter func152,ntmps152;go_wp2_with (first|(refine jo _ w rfl (.tmp 26) 30 9 (some (.const (ι 1))) none rfl underlying30 I z PS _ (x::L) rfl k 1 (L.length+1) (zb rfl) (zf ⟨rfl,rfl⟩) (by omega) (by simp) L.length (by omega) ?_;intro G m f;simp only[l5,gU,vw] at f;obtain⟨b,o,rfl,n,a⟩:=f.cells (by omega);have d:=a 0 (by omega);have g:=a 1 (by omega);rw[xx (by omega)] at d g;rw[uV] at d;have C:=Q5 a;clear a)|(go_at_call 184;refine(kZ _ _ h).mono ?_;rintro e q ⟨rfl,rfl⟩))
 exact zL (v:=.tuple #[.agg #[.bool true,.string (gB L 0),ν],.bool false]) (by simp[results,results152,go_sem];try rfl) rfl ⟨(by go_grown),_,_,_,_,_,rfl⟩
theorem Pm(w:World)(v:Value)(x:ByteArray)(L:κ)(l:SV w v (x::L))(j:∀y∈L,0<y.size)(O:(x.toList == [33])=true)(C:L.length<=500)(J:¬L.length=0)(hs:yR (QE (gB L 0) 0)=true)(t:¬L.length=1)(z:¬L.length<4)(G:¬L.length%2=1)(F:((gB L 1).toList == [40])=true)(D:((gB L (L.length-1)).toList == [41])=false):
  Calls prog 152 #[v,.bool false] w fun e r=>j4 none w e r:=by
 obtain⟨K,A,s,H,u⟩:=info_parts Qq;obtain⟨B,q,rfl⟩:=l.qx;obtain⟨N,M,rfl,k,c⟩:=l.cells (by simp);have m:=c 0 (by simp);rw[uV,gG] at m;have h:0<(gB L 0).size:=by rw[←xx (by omega:0<L.length)];exact j _ (zs _)
 go_enter func152,ntmps152;go_wp2_with (first|(refine jo _ w rfl (.tmp 26) 30 9 (some (.const (ι 1))) none rfl underlying30 K A PS _ (x::L) rfl l 1 (L.length+1) (zb rfl) (zf ⟨rfl,rfl⟩) (by omega) (by simp) L.length (by omega) ?_;intro I n f;simp only[l5,gU,vw] at f;obtain⟨b,o,rfl,p,a⟩:=f.cells (by omega);have d:=a 0 (by omega);have g:=a 1 (by omega);have i:=a (L.length-1) (by omega);rw[xx (by omega)] at d g i;rw[uV] at d;have E:=Q5 a;clear a)|(go_at_call 184;refine(kZ _ _ h).mono ?_;rintro e r ⟨rfl,rfl⟩))
 exact zL (v:=.tuple #[.agg #[.bool true,.string (gB L 0),ν],.bool false]) (by simp[results,results152,go_sem];try rfl) rfl ⟨(by go_grown),_,_,_,_,_,rfl⟩
theorem D8{x:ByteArray}(h:(x.toList == [44])=true):Rc (QE x 0)=false:=by
 rw[beq_iff_eq,l7] at h;obtain⟨⟨l⟩⟩:=x;simp at h;subst h;rfl
theorem Lt(w:World)(v:Value)(L:κ)(z:Bool)(O:SV w v L)(J:∀y∈L,0<y.size)(a7:L.length<=500)(hb:Rp L z=false)(ay:¬L.length=0)(hs:yR (QE (gB L 0) 0)=true)(az:¬L.length=1)(au:¬L.length<4)(aw:¬L.length%2=1)(E:((gB L 1).toList == [40])=true)(D:((gB L (L.length-1)).toList == [41])=true):
  Calls prog 152 #[v,.bool z] w fun e F=>j4 (xi false L) w e F:=by
 obtain⟨i0,hi,M,ai,Z⟩:=info_parts Qq;have c:=mH hb;obtain⟨ax,am,rfl⟩:=O.qx;have Y:0<(gB L 0).size:=by rw[←xx (by omega:0<L.length)];exact J _ (zs _)
 obtain⟨b,o,rfl,R,n⟩:=O.cells (by omega);have T:=n 0 (by omega);have ag:=n 1 (by omega);have aa:=n (L.length-1) (by omega);rw[xx (by omega)] at T ag aa;rw[uV] at T;have W:=Q5 n;clear n;have a4:((L.length:Int) == 0)=false:=by rw[beq_eq_false_iff_ne];omega
 have a5:((L.length:Int) == 1)=false:=by rw[beq_eq_false_iff_ne];omega
 have a3:((L.length:Int)%2 == 1)=false:=by rw[beq_eq_false_iff_ne];omega
 rcases c with c|⟨_,c⟩|⟨⟨_,c⟩,rfl⟩
 ·omega
 all_goals
  go_enter func152,ntmps152;go_wp2_with (go_at_call 184;refine(kZ _ _ Y).mono ?_;rintro e F ⟨rfl,rfl⟩)
  go_loopw [9] (fun i wr=>∃(k:Nat) (X:Value),2<=k/\k<=L.length-1/\i=ι k/\Hid (qe L k=true)/\μ w wr/\Q6 wr w.heap.size #[.bool false,.string ByteArray.empty,ν] 90/\Q6 wr (w.heap.size+1) #[.bool false,.string (gB L 0),X] 90/\wr.ownsRow w.heap.size 9 1 X (uP L k).length ((uP L k).map Value.string)) (fun i _=>L.length-(intOf i).toNat)
  case atStart=>exact⟨2,_,zg _,by omega,rfl,by simp[Hid,qe],(by go_grown),(Q6.new w _ _).below zT,Q6.newAt _ _ _ _ (by simp),yC _ _ _ _⟩
  case round=>
   obtain⟨k,X,t,hk,rfl,H,s,j,g,a⟩:=hrel;obtain⟨B,l,rfl⟩:=zp a;obtain⟨a1,a8⟩:=g.rules;obtain⟨A,ar⟩:=j.rules;have ap:=s.size;have aq:=g.lt;have al:=oh L k;by_cases a2:k<L.length-1
   ·have ae:=(s.cell (p:=⟨b,o+k,none⟩) R).trans (W.out k (by omega));have a6:b<wr.heap.size:=by omega
    have a0:k<L.length:=by omega
    have q:0<L[k].size:=J _ (zs _);rw[xx (by omega:k<L.length)] at ae q;have G:uP L (k+1)=uP L k++(if 2<=k/\k%2=0 then [gB L k] else []):=rfl;have x:qe L (k+1)=(qe L k&&(decide (k<2)||Ss L k)):=rfl;rw[H.out,decide_eq_false (by omega:¬k<2),mY,nJ] at x;have u:Hid (Ss L k=false->qe L (L.length-1)=false):=fun h=>A9 (i:=k+1) (by rw[x,h]) _ (by omega);unfold Ss at x u;by_cases f:k%2=0
    ·rw[zc f] at x u;rw[zc ⟨t,f⟩] at G;have af:((k:Int)%2 == 0)=true:=by rw[beq_iff_eq];omega
     have ab:((k:Int)%2 == 1)=false:=by rw[beq_eq_false_iff_ne];omega
     have S:=Q5 G;have C:=Q5 x;clear G x f;cases I:Rc (QE (gB L k) 0) with
     |false=>
      have P:Hid (xi false L=none):=by unfold Hid xi;rw[za (by omega),hs,za (by simp),za (by omega),za (by rw[E,D];simp;omega),u.out I];simp
      clear u S C;generalize gB L k=U at *;go_wp2_with (go_at_call 185;refine(m6 _ _ q).mono ?_;rintro e F ⟨rfl,d⟩;obtain rfl:=d.symm)
      rw[P.out];exact zL (v:=.tuple #[.agg #[.bool false,.string (gB L 0),.slice B (uP L k).length l],.bool false]) (by simp[results,results152,go_sem,A];try rfl) rfl ⟨(by go_grown),_,_,_,_,_,rfl⟩
     |true=>
      rw[I] at C;clear u;generalize gB L k=U at *;generalize ah:uP L k=ak at *;clear ah;go_wp2_with (go_at_call 185;refine(m6 _ _ q).mono ?_;rintro e F ⟨rfl,d⟩;obtain rfl:=d.symm)
      go_region_law (refine o4 wr _ [.string U] 9 rfl (.tmp 103) (.tmp 108) 30 rfl w.heap.size 9 i0 _ 1 16 underlying30 hi M ai Z rfl (by decide) _ _ _ (by simp[Act.eval]) a (by exact(by go_grown)) wr.heap.size 1 (by simp[Act.eval]) (by exact Q6.drew (Q6.newAt _ _ _ _ rfl)) rfl (by simp[Value.oneCell']) (by omega) (by omega) s.size ?_;intro v' w2 N ad t an;obtain⟨V,Q,rfl⟩:=zp N;have m:=Q6.keep (Q6.drew (g.below zT)) (fF a g (by decide)) t;have K:=Q6.keep (Q6.drew (j.below zT)) (fF a j (by decide)) t;obtain⟨aj,ao⟩:=m.rules)
      all_goals
       go_wp2;go_roundw
       case rel=>exact⟨k+1,_,by omega,by omega,by go_num,C,(s.trans ad).setCell (by simp) _,K.set_ne (by omega) _ _,m.set 2 _,by rw[S.out];have:=xO N ((QH.refl (w.heap.size+1) w2).setCell 2 (.slice V (ak.length+1) Q)) m (by decide);simpa using this⟩
       case measure=>simp[intOf];omega
    ·rw[za f] at x u;rw[za (by omega),qQ] at G;have af:((k:Int)%2 == 0)=false:=by rw[beq_eq_false_iff_ne];omega
     have ab:((k:Int)%2 == 1)=true:=by rw[beq_iff_eq];omega
     have S:=Q5 G;have C:=Q5 x;clear G x f;cases I:((gB L k).toList == [44]) with
     |false=>
      have P:Hid (xi false L=none):=by unfold Hid xi;rw[za (by omega),hs,za (by simp),za (by omega),za (by rw[E,D];simp;omega),u.out I];simp
      clear u S C;generalize gB L k=U at *;go_wp2_with (go_at_call 185;refine(m6 _ _ q).mono ?_;rintro e F ⟨rfl,d⟩;obtain rfl:=d.symm)
      rw[P.out];exact zL (v:=.tuple #[.agg #[.bool false,.string (gB L 0),.slice B (uP L k).length l],.bool false]) (by simp[results,results152,go_sem,A];try rfl) rfl ⟨(by go_grown),_,_,_,_,_,rfl⟩
     |true=>
      rw[I] at C;have av:=D8 I;clear u;generalize gB L k=U at *;go_wp2_with (go_at_call 185;refine(m6 _ _ q).mono ?_;rintro e F ⟨rfl,d⟩;obtain rfl:=d.symm)
      go_roundw
      case rel=>exact⟨k+1,_,by omega,by omega,by go_num,C,s,j,g,by rw[S.out];exact a⟩
      case measure=>simp[intOf];omega
   ·have ac:k=L.length-1:=by omega
    have P:Hid (xi false L=some ⟨false,gB L 0,uP L k⟩):=by unfold Hid xi;rw[za (by omega),hs,za (by simp),za (by omega),za (by rw[E,D];simp;omega),←ac,H.out];simp
    clear H;generalize uP L k=ak at *;go_wp2;rw[P.out];exact zL (v:=.tuple #[.agg #[.bool false,.string (gB L 0),.slice B ak.length l],.bool true]) (by simp[results,results152,go_sem,A]) rfl ⟨(by go_grown),_,rfl,xO (r:=w.heap.size) a (by repeat'(first|with_reducible(first|apply xR|assumption|apply xN|apply xA|apply xD|apply xS|apply xT)|go_size)) j (by decide)⟩
theorem J6(w:World)(v:Value)(x:ByteArray)(L:κ)(hv:SV w v (x::L))(J:∀y∈L,0<y.size)(hx:(x.toList == [33])=true)(aB:L.length<=500)(a1:¬L.length=0)(hs:yR (QE (gB L 0) 0)=true)(a2:¬L.length=1)(ax:¬L.length<4)(az:¬L.length%2=1)(E:((gB L 1).toList == [40])=true)(D:((gB L (L.length-1)).toList == [41])=true):
  Calls prog 152 #[v,.bool false] w fun e F=>j4 (xi true L) w e F:=by
 obtain⟨i0,hi,M,al,Z⟩:=info_parts Qq;obtain⟨aA,an,rfl⟩:=hv.qx;obtain⟨b1,o1,rfl,aj,z⟩:=hv.cells (by simp);have af:=z 0 (by simp);rw[uV,gG] at af;clear z;have Y:0<(gB L 0).size:=by rw[←xx (by omega:0<L.length)];exact J _ (zs _)
 have a7:((L.length:Int) == 0)=false:=by rw[beq_eq_false_iff_ne];omega
 have a8:((L.length:Int) == 1)=false:=by rw[beq_eq_false_iff_ne];omega
 have a6:((L.length:Int)%2 == 1)=false:=by rw[beq_eq_false_iff_ne];omega
 go_enter func152,ntmps152;go_wp2_with (first|(refine jo _ w rfl (.tmp 26) 30 9 (some (.const (ι 1))) none rfl underlying30 i0 hi PS _ (x::L) rfl hv 1 (L.length+1) (zb rfl) (zf ⟨rfl,rfl⟩) (by omega) (by simp) L.length (by omega) ?_;intro a0 ap O;simp only[l5,gU,vw] at O;obtain⟨b,o,rfl,R,m⟩:=O.cells (by omega);have T:=m 0 (by omega);have ah:=m 1 (by omega);have aa:=m (L.length-1) (by omega);rw[xx (by omega)] at T ah aa;rw[uV] at T;have W:=Q5 m;clear m)|(go_at_call 184;refine(kZ _ _ Y).mono ?_;rintro e F ⟨rfl,rfl⟩))
 go_loopw [9] (fun i wr=>∃(k:Nat) (X:Value),2<=k/\k<=L.length-1/\i=ι k/\Hid (qe L k=true)/\μ w wr/\Q6 wr w.heap.size #[.bool false,.string ByteArray.empty,ν] 90/\Q6 wr (w.heap.size+1) #[.bool true,.string (gB L 0),X] 90/\wr.ownsRow w.heap.size 9 1 X (uP L k).length ((uP L k).map Value.string)) (fun i _=>L.length-(intOf i).toNat)
 case atStart=>exact⟨2,_,zg _,by omega,rfl,by simp[Hid,qe],(by go_grown),(Q6.new w _ _).below zT,Q6.newAt _ _ _ _ (by simp),yC _ _ _ _⟩
 case round=>
  obtain⟨k,X,s,hk,rfl,H,q,g,f,a⟩:=hrel;obtain⟨B,j,rfl⟩:=zp a;obtain⟨a4,aC⟩:=f.rules;obtain⟨A,aw⟩:=g.rules;have au:=q.size;have av:=f.lt;have ao:=oh L k;by_cases a5:k<L.length-1
  ·have ae:=(q.cell (p:=⟨b,o+k,none⟩) R).trans (W.out k (by omega));have a9:b<wr.heap.size:=by omega
   have a3:k<L.length:=by omega
   have n:0<L[k].size:=J _ (zs _);rw[xx (by omega:k<L.length)] at ae n;have G:uP L (k+1)=uP L k++(if 2<=k/\k%2=0 then [gB L k] else []):=rfl;have u:qe L (k+1)=(qe L k&&(decide (k<2)||Ss L k)):=rfl;rw[H.out,decide_eq_false (by omega:¬k<2),mY,nJ] at u;have t:Hid (Ss L k=false->qe L (L.length-1)=false):=fun h=>A9 (i:=k+1) (by rw[u,h]) _ (by omega);unfold Ss at u t;by_cases d:k%2=0
   ·rw[zc d] at u t;rw[zc ⟨s,d⟩] at G;have ag:((k:Int)%2 == 0)=true:=by rw[beq_iff_eq];omega
    have ab:((k:Int)%2 == 1)=false:=by rw[beq_eq_false_iff_ne];omega
    have S:=Q5 G;have C:=Q5 u;clear G u d;cases I:Rc (QE (gB L k) 0) with
    |false=>
     have P:Hid (xi true L=none):=by unfold Hid xi;rw[za (by omega),hs,za (by simp),za (by omega),za (by rw[E,D];simp;omega),t.out I];simp
     clear t S C;generalize gB L k=U at *;go_wp2_with (go_at_call 185;refine(m6 _ _ n).mono ?_;rintro e F ⟨rfl,c⟩;obtain rfl:=c.symm)
     rw[P.out];exact zL (v:=.tuple #[.agg #[.bool true,.string (gB L 0),.slice B (uP L k).length j],.bool false]) (by simp[results,results152,go_sem,A];try rfl) rfl ⟨(by go_grown),_,_,_,_,_,rfl⟩
    |true=>
     rw[I] at C;clear t;generalize gB L k=U at *;generalize ai:uP L k=ak at *;clear ai;go_wp2_with (go_at_call 185;refine(m6 _ _ n).mono ?_;rintro e F ⟨rfl,c⟩;obtain rfl:=c.symm)
     go_region_law (refine o4 wr _ [.string U] 9 rfl (.tmp 103) (.tmp 108) 30 rfl w.heap.size 9 i0 _ 1 16 underlying30 hi M al Z rfl (by decide) _ _ _ (by simp[Act.eval]) a (by exact(by go_grown)) wr.heap.size 1 (by simp[Act.eval]) (by exact Q6.drew (Q6.newAt _ _ _ _ rfl)) rfl (by simp[Value.oneCell']) (by omega) (by omega) q.size ?_;intro v' w2 N ad s aq;obtain⟨V,Q,rfl⟩:=zp N;have l:=Q6.keep (Q6.drew (f.below zT)) (fF a f (by decide)) s;have K:=Q6.keep (Q6.drew (g.below zT)) (fF a g (by decide)) s;obtain⟨am,ar⟩:=l.rules)
     all_goals
      go_wp2;go_roundw
      case rel=>exact⟨k+1,_,by omega,by omega,by go_num,C,(q.trans ad).setCell (by simp) _,K.set_ne (by omega) _ _,l.set 2 _,by rw[S.out];have:=xO N ((QH.refl (w.heap.size+1) w2).setCell 2 (.slice V (ak.length+1) Q)) l (by decide);simpa using this⟩
      case measure=>simp[intOf];omega
   ·rw[za d] at u t;rw[za (by omega),qQ] at G;have ag:((k:Int)%2 == 0)=false:=by rw[beq_eq_false_iff_ne];omega
    have ab:((k:Int)%2 == 1)=true:=by rw[beq_iff_eq];omega
    have S:=Q5 G;have C:=Q5 u;clear G u d;cases I:((gB L k).toList == [44]) with
    |false=>
     have P:Hid (xi true L=none):=by unfold Hid xi;rw[za (by omega),hs,za (by simp),za (by omega),za (by rw[E,D];simp;omega),t.out I];simp
     clear t S C;generalize gB L k=U at *;go_wp2_with (go_at_call 185;refine(m6 _ _ n).mono ?_;rintro e F ⟨rfl,c⟩;obtain rfl:=c.symm)
     rw[P.out];exact zL (v:=.tuple #[.agg #[.bool true,.string (gB L 0),.slice B (uP L k).length j],.bool false]) (by simp[results,results152,go_sem,A];try rfl) rfl ⟨(by go_grown),_,_,_,_,_,rfl⟩
    |true=>
     rw[I] at C;have ay:=D8 I;clear t;generalize gB L k=U at *;go_wp2_with (go_at_call 185;refine(m6 _ _ n).mono ?_;rintro e F ⟨rfl,c⟩;obtain rfl:=c.symm)
     go_roundw
     case rel=>exact⟨k+1,_,by omega,by omega,by go_num,C,q,g,f,by rw[S.out];exact a⟩
     case measure=>simp[intOf];omega
  ·have ac:k=L.length-1:=by omega
   have P:Hid (xi true L=some ⟨true,gB L 0,uP L k⟩):=by unfold Hid xi;rw[za (by omega),hs,za (by simp),za (by omega),za (by rw[E,D];simp;omega),←ac,H.out];simp
   clear H;generalize uP L k=ak at *;go_wp2;rw[P.out];exact zL (v:=.tuple #[.agg #[.bool true,.string (gB L 0),.slice B ak.length j],.bool true]) (by simp[results,results152,go_sem,A]) rfl ⟨(by go_grown),_,rfl,xO (r:=w.heap.size) a (by repeat'(first|with_reducible(first|apply xR|assumption|apply xN|apply xA|apply xD|apply xS|apply xT)|go_size)) g (by decide)⟩
end
section
variable {l:κ}
def yF(l:κ):Nat->Nat->Int->Nat->Option (List zj)
 |0,_,_,_=>some []
 |n+1,b,d,i=>
  if i<l.length then
   if ((gB l i).toList == [40]) then yF l n b (d+1) (i+1)
   else if ((gB l i).toList == [41]) then yF l n b (d-1) (i+1)
   else if ((gB l i).toList == [44])=false∨0<d then yF l n b d (i+1)
   else match jD ((l.drop b).take (i-b)) false with
    |none=>none
    |some a=>(yF l n (i+1) d (i+1)).map (a::·)
  else match jD ((l.drop b).take (i-b)) false with
   |none=>none
   |some a=>some [a]
theorem s40{x:ByteArray}(h:(x.toList == [40])=true):(x.toList == [41])=false/\(x.toList == [44])=false:=by rw[beq_iff_eq] at h;rw[h];exact⟨rfl,rfl⟩
theorem s41{x:ByteArray}(h:(x.toList == [41])=true):(x.toList == [40])=false/\(x.toList == [44])=false:=by rw[beq_iff_eq] at h;rw[h];exact⟨rfl,rfl⟩
def xG:κ->Nat
 |[]=>0
 |x::r=>if (x.toList == [58,45]) then 0 else xG r+1
theorem Cb:∀l,xG l<=l.length
 |[]=>zg _
 |x::r=>by have:=Cb r;unfold xG;split<;>simp<;>omega
theorem Hx{j:Nat}(a:j<l.length)(h:((gB l j).toList == [58,45])=false):xG (l.drop j)=xG (l.drop (j+1))+1:=by
 rw[xp a,xG,xx a,h];rfl
theorem Nb{j:Nat}(a:j<l.length)(h:((gB l j).toList == [58,45])=true):xG (l.drop j)=0:=by
 rw[xp a,xG,xx a,h];rfl
def kd(l:κ):Option zd:=
 match jD (l.take (xG l)) true with
 |none=>none
 |some h=>if xG l=l.length then some ⟨h,[]⟩ else
  match yF (l.drop (xG l+1)) ((l.drop (xG l+1)).length+1) 0 0 0 with
  |none=>none
  |some b=>some ⟨h,b⟩
def qC(l:κ):Nat->Nat->Nat->Option (List zd)
 |0,a,_=>if a=l.length then some [] else none
 |n+1,a,i=>
  if ((gB l i).toList == [46]) then
   match kd ((l.drop a).take (i-a)) with
   |none=>none
   |some c=>(qC l n (i+1) (i+1)).map (c::·)
  else qC l n a (i+1)
def vu(l:κ):Option (List zd):=qC l l.length 0 0
end
section
open Go.Proofs.Tryz Go.RowKit
variable {lo:Nat}{o:Option (List zj)}
theorem Bj(w:World)(v:Value)(l:κ)(b:Bool)(k:SV w v l)(g:∀y∈l,0<y.size)(q:l.length<=500):
  Calls prog 152 #[v,.bool b] w fun e z=>j4 (jD l b) w e z:=by
 unfold jD;cases p:Rp l b with
 |false=>
  rw[za (by simp)];by_cases d:l.length=0
  ·have:xi false l=none:=by unfold xi;rw[zc d]
   rw[this];exact Gp w v l b k g q p d
  ·cases f:yR (QE (gB l 0) 0) with
   |false=>
    have:xi false l=none:=by unfold xi;rw[za d,zc f]
    rw[this];exact I2 w v l b k g q p d f
   |true=>
    by_cases i:l.length=1
    ·have:xi false l=some ⟨false,gB l 0,[]⟩:=by unfold xi;rw[za d,f,za (by simp),zc i]
     rw[this];exact Ko w v l b k g q p d f i
    ·by_cases a:l.length<4∨l.length%2=1∨((gB l 1).toList == [40])=false∨((gB l (l.length-1)).toList == [41])=false
     ·have:xi false l=none:=by unfold xi;rw[za d,f,za (by simp),za i,zc a]
      rw[this];by_cases r:l.length<4
      ·exact N5 w v l b k g q p d f i r
      ·by_cases s:l.length%2=1
       ·exact LV w v l b k g q p d f i r s
       ·cases m:((gB l 1).toList == [40]) with
        |false=>exact KK w v l b k g q p d f i r s m
        |true=>
         cases n:((gB l (l.length-1)).toList == [41]) with
         |false=>exact Ge w v l b k g q p d f i r s m n
         |true=>rw[m,n] at a;simp at a;omega
     ·simp only[not_or,sc] at a;exact Lt w v l b k g q p d f i a.1 a.2.1 a.2.2.1 a.2.2.2
 |true=>
  rw[zc rfl];simp only[Rp,ux,decide_eq_true_eq,Bool.not_eq_true'] at p;obtain⟨⟨t,A⟩,rfl⟩:=p;cases l with
  |nil=>simp at t
  |cons x l=>
   have j:(x.toList == [33])=true:=A;have c:∀y∈l,0<y.size:=fun y u=>g y (pg _ u);have h:l.length<=500:=by simp at q;omega
   rw[lW];by_cases d:l.length=0
   ·have:xi true l=none:=by unfold xi;rw[zc d]
    rw[this];exact Lg w v x l k c j h d
   ·cases f:yR (QE (gB l 0) 0) with
    |false=>
     have:xi true l=none:=by unfold xi;rw[za d,zc f]
     rw[this];exact Gt w v x l k c j h d f
    |true=>
     by_cases i:l.length=1
     ·have:xi true l=some ⟨true,gB l 0,[]⟩:=by unfold xi;rw[za d,f,za (by simp),zc i]
      rw[this];exact J7 w v x l k c j h d f i
     ·by_cases a:l.length<4∨l.length%2=1∨((gB l 1).toList == [40])=false∨((gB l (l.length-1)).toList == [41])=false
      ·have:xi true l=none:=by unfold xi;rw[za d,f,za (by simp),za i,zc a]
       rw[this];by_cases r:l.length<4
       ·exact K4 w v x l k c j h d f i r
       ·by_cases s:l.length%2=1
        ·exact G9 w v x l k c j h d f i r s
        ·cases m:((gB l 1).toList == [40]) with
         |false=>exact Nv w v x l k c j h d f i r s m
         |true=>
          cases n:((gB l (l.length-1)).toList == [41]) with
          |false=>exact Pm w v x l k c j h d f i r s m n
          |true=>rw[m,n] at a;simp at a;omega
      ·simp only[not_or,sc] at a;exact J6 w v x l k c j h d f i a.1 a.2.1 a.2.2.1 a.2.2.2
theorem il(w:World)(v:Value)(l:κ)(a:Bool)(q:SV w v l)(d:∀y∈l,0<y.size)(j:l.length<=500)(h:jD l a=none):
  Calls prog 152 #[v,.bool a] w fun e g=>∃b p f n c,e=ε (.tuple #[.agg #[.bool b,.string p,.slice f n c],.bool false])/\μ w g:=by
 refine(Bj w v l a q d j).mono ?_;rintro e g ⟨k,i⟩;rw[h] at i;obtain⟨b,p,f,n,c,m⟩:=i;exact⟨b,p,f,n,c,m,k⟩
theorem e6(w:World)(v:Value)(l:κ)(b:Bool)(a:zj)(m:SV w v l)(d:∀y∈l,0<y.size)(i:l.length<=500)(h:jD l b=some a):
  Calls prog 152 #[v,.bool b] w fun e f=>∃c,e=ε (.tuple #[.agg #[.bool a.neg,.string a.pred,c],.bool true])/\QD w.heap.size f c a.args/\μ w f:=by
 refine(Bj w v l b m d i).mono ?_;rintro e f ⟨j,g⟩;rw[h] at g;obtain⟨c,k,n⟩:=g;exact⟨c,k,n,j⟩
def eY(o:Option (List zj))(w:World)(e:Ending)(w':World):Prop:=
 μ w w'/\match o with
  |none=>e=ε (.tuple #[ν,.bool false])
  |some a=>∃v,e=ε (.tuple #[v,.bool true])/\Re w.heap.size w' v a
theorem Ah{w w':World}(h:Hid (o=none))(b:μ w w'):eY o w (ε (.tuple #[ν,.bool false])) w':=by
 have a:o=none:=h;subst a;exact⟨b,rfl⟩
theorem NG{w w':World}{v:Value}{a:List zj}(h:Hid (o=some a))(c:μ w w')(hs:Re w.heap.size w' v a):eY o w (ε (.tuple #[v,.bool true])) w':=by
 have b:o=some a:=h;subst b;exact⟨c,v,rfl,hs⟩
theorem Ck(w:World)(v:Value)(l:κ)(Y:SV w v l)(Z:∀y∈l,0<y.size)(hl:l.length<=500):
  Calls prog 153 #[v] w fun e w'=>eY (yF l (l.length+1) 0 0 0) w e w':=by
 obtain⟨i0,hi,ab,ag,ad⟩:=info_parts Q2;obtain⟨i1,N,_,_,_⟩:=info_parts Qq;obtain⟨ao,ax,rfl⟩:=Y.qx;go_enter func153,ntmps153;go_wp2;go_loopw [4,5,6,7] (fun v4 v5 v6 v7 wr=>∃(g:List zj) (f k m:Nat) (d:Int) (X:List Value),v5=ι f/\v6=ι d/\v7=ι k/\f<=k/\k<=l.length+1/\m+k=l.length+1/\-500<=d+(k:Int)/\d<=k/\-(k:Int)<=d/\g.length<=k/\(k=l.length+1∨f<=l.length) ∧
   μ w wr/\wr.ownsRow w.heap.size 90 3 v4 g.length X/\uI w.heap.size wr g X/\Hid (yF l (l.length+1) 0 0 0=(yF l m f d k).map (g++·))) (fun _ _ _ i _=>l.length+1-(intOf i).toNat)
 case atStart=>exact⟨[],0,0,l.length+1,0,[],rfl,rfl,rfl,zg _,by omega,by omega,by omega,by omega,by omega,by simp,zb (by omega),zo _ _,yC _ _ _ _,rfl,(by simp[Hid])⟩
 case round=>
  obtain⟨g,f,k,m,d,X,rfl,rfl,rfl,ay,ar,an,am,av,ap,ak,aq,h,j,s,H⟩:=hrel;have al:=h.size;by_cases au:k<=l.length
  ·obtain⟨m,rfl⟩:∃m',m=m'+1:=⟨m-1,by omega⟩;by_cases M:k<l.length
   ·obtain⟨b,o,rfl,af,ac⟩:=Y.cell k M;have ai:=zl h af ac;have aw:b<wr.heap.size:=by omega
    rw[xx M] at ai;clear ac;have c:yF l (m+1) f d k=(if ((gB l k).toList == [40]) then yF l m f (d+1) (k+1) else if ((gB l k).toList == [41]) then yF l m f (d-1) (k+1) else if ((gB l k).toList == [44])=false∨0<d then yF l m f d (k+1) else match jD ((l.drop f).take (k-f)) false with|none=>none|some a=>(yF l m (k+1) d (k+1)).map (a::·)):=by rw[yF,zc M];try rfl
    cases B:((gB l k).toList == [40]) with
    |true=>
     obtain⟨A,L⟩:=s40 B;have K:Hid (yF l (l.length+1) 0 0 0=(yF l m f (d+1) (k+1)).map (g++·)):=by rw[Hid,H.out,c,B];rfl
     clear H c;generalize gB l k=x at *;go_wp2;go_roundw
     case rel=>exact⟨g,f,k+1,m,d+1,X,rfl,rfl,by go_num,by omega,by omega,by omega,by omega,by omega,by omega,by omega,by omega,h,j,s,K⟩
     case measure=>simp[intOf];omega
    |false=>
     cases A:((gB l k).toList == [41]) with
     |true=>
      obtain⟨_,L⟩:=s41 A;have K:Hid (yF l (l.length+1) 0 0 0=(yF l m f (d-1) (k+1)).map (g++·)):=by rw[Hid,H.out,c,B,A];rfl
      clear H c;generalize gB l k=x at *;go_wp2;go_roundw
      case rel=>exact⟨g,f,k+1,m,d-1,X,rfl,rfl,by go_num,by omega,by omega,by omega,by omega,by omega,by omega,by omega,by omega,h,j,s,K⟩
      case measure=>simp[intOf];omega
     |false=>
      cases L:((gB l k).toList == [44]) with
      |false=>
       have K:Hid (yF l (l.length+1) 0 0 0=(yF l m f d (k+1)).map (g++·)):=by rw[Hid,H.out,c,B,A,L];simp
       clear H c;generalize gB l k=x at *;go_wp2;go_roundw
       case rel=>exact⟨g,f,k+1,m,d,X,rfl,rfl,by go_num,by omega,by omega,by omega,by omega,by omega,by omega,by omega,by omega,h,j,s,K⟩
       case measure=>simp[intOf];omega
      |true=>
       by_cases ah:0<d
       ·have K:Hid (yF l (l.length+1) 0 0 0=(yF l m f d (k+1)).map (g++·)):=by rw[Hid,H.out,c,B,A,L];simp[ah]
        clear H c;generalize gB l k=x at *;go_wp2;go_roundw
        case rel=>exact⟨g,f,k+1,m,d,X,rfl,rfl,by go_num,by omega,by omega,by omega,by omega,by omega,by omega,by omega,by omega,h,j,s,K⟩
        case measure=>simp[intOf];omega
       ·rw[B,A,L,za (by simp),za (by simp),za (by simp;omega)] at c;generalize gB l k=x at *;have I:Hid (∀y∈(l.drop f).take (k-f),0<y.size):=fun y hy=>Z y (dK (fS hy));cases z:jD ((l.drop f).take (k-f)) false with
        |none=>
         have P:=Q5 z;have HF:Hid (yF l (l.length+1) 0 0 0=none):=by rw[Hid,H.out,c,z];rfl
         clear H c z;go_wp2_with (first|(refine jo _ w rfl (.tmp 58) 30 9 (some (.tmp 59)) (some (.tmp 60)) rfl underlying30 i1 N PS _ l rfl Y f k (zb rfl) (zb rfl) (by omega) (by omega) (k-f) rfl ?_;intro Q G t)|(go_at_call 152;refine(il _ _ ((l.drop f).take (k-f)) false (by exact t.below h) I.out (by simp;omega) P).mono ?_;rintro e w1 ⟨b1,p1,aj,n1,aa,rfl,n⟩;have p:=Q9 h n;have F:=p.size))
         go_ret2
         exact Ah HF (by go_grown)
        |some a=>
         have P:=Q5 z;have K:Hid (yF l (l.length+1) 0 0 0=(yF l m (k+1) d (k+1)).map ((g++[a])++·)):=by rw[Hid,H.out,c,z];simp only[];rw[rI]
         clear H c z;go_wp2_with (first|(refine jo _ w rfl (.tmp 58) 30 9 (some (.tmp 59)) (some (.tmp 60)) rfl underlying30 i1 N PS _ l rfl Y f k (zb rfl) (zb rfl) (by omega) (by omega) (k-f) rfl ?_;intro Q G t)|(go_at_call 152;refine(e6 _ _ ((l.drop f).take (k-f)) false a (by exact t.below h) I.out (by simp;omega) P).mono ?_;rintro e w1 ⟨va,rfl,r,n⟩;obtain⟨V,E,rfl⟩:=r.qx;have p:=Q9 h n;have F:=p.size;have u:=zB j n;have D:=s.mono fun _ _ q=>q.below n)|(at_builtin;refine ks w1 _ _ _ rfl (.tmp 67) (.tmp 69) 91 rfl w.heap.size 90 i0 _ 3 48 underlying91 hi ab ag ad rfl (by decide) _ _ _ rfl u zT _ _ rfl (by simp) rfl (by simp[Value.oneCell']) (by omega) (by omega) F ?_;intro v' w2 R S O W J ae;clear O W;have T:QD w.heap.size w2 (Value.slice V a.args.length E) a.args:=yr (gC u (by decide) r J) h.size;have C:=D.mono fun _ _ q=>gC u (by decide) q J))
         go_roundw
         case rel=>exact⟨g++[a],k+1,k+1,m,d,_,by go_num,rfl,by go_num,zg _,by omega,by omega,by omega,by omega,by omega,by simp;omega,by omega,p.trans S,by rw[yp];exact R,C.snoc T,K⟩
         case measure=>simp[intOf];omega
   ·have c:yF l (m+1) f d k=(match jD ((l.drop f).take (k-f)) false with|none=>none|some a=>some [a]):=by rw[yF,za M];try rfl
    have U:m=0:=by omega
    have I:Hid (∀y∈(l.drop f).take (k-f),0<y.size):=fun y hy=>Z y (dK (fS hy));cases z:jD ((l.drop f).take (k-f)) false with
    |none=>
     have P:=Q5 z;have HF:Hid (yF l (l.length+1) 0 0 0=none):=by rw[Hid,H.out,c,z];rfl
     clear H c z;go_wp2_with (first|(refine jo _ w rfl (.tmp 58) 30 9 (some (.tmp 59)) (some (.tmp 60)) rfl underlying30 i1 N PS _ l rfl Y f k (zb rfl) (zb rfl) (by omega) (by omega) (k-f) rfl ?_;intro Q G t)|(go_at_call 152;refine(il _ _ ((l.drop f).take (k-f)) false (by exact t.below h) I.out (by simp;omega) P).mono ?_;rintro e w1 ⟨b1,p1,aj,n1,aa,rfl,n⟩;have p:=Q9 h n;have F:=p.size))
     go_ret2
     exact Ah HF (by go_grown)
    |some a=>
     have P:=Q5 z;have K:Hid (yF l (l.length+1) 0 0 0=(yF l m (k+1) d (k+1)).map ((g++[a])++·)):=by rw[Hid,H.out,c,z,U];simp[yF]
     clear H c z;go_wp2_with (first|(refine jo _ w rfl (.tmp 58) 30 9 (some (.tmp 59)) (some (.tmp 60)) rfl underlying30 i1 N PS _ l rfl Y f k (zb rfl) (zb rfl) (by omega) (by omega) (k-f) rfl ?_;intro Q G t)|(go_at_call 152;refine(e6 _ _ ((l.drop f).take (k-f)) false a (by exact t.below h) I.out (by simp;omega) P).mono ?_;rintro e w1 ⟨va,rfl,r,n⟩;obtain⟨V,E,rfl⟩:=r.qx;have p:=Q9 h n;have F:=p.size;have u:=zB j n;have D:=s.mono fun _ _ q=>q.below n)|(at_builtin;refine ks w1 _ _ _ rfl (.tmp 67) (.tmp 69) 91 rfl w.heap.size 90 i0 _ 3 48 underlying91 hi ab ag ad rfl (by decide) _ _ _ rfl u zT _ _ rfl (by simp) rfl (by simp[Value.oneCell']) (by omega) (by omega) F ?_;intro v' w2 R S O W J ae;clear O W;have T:QD w.heap.size w2 (Value.slice V a.args.length E) a.args:=yr (gC u (by decide) r J) h.size;have C:=D.mono fun _ _ q=>gC u (by decide) q J))
     go_roundw
     case rel=>exact⟨g++[a],k+1,k+1,m,d,_,by go_num,rfl,by go_num,zg _,by omega,by omega,by omega,by omega,by omega,by simp;omega,by omega,p.trans S,by rw[yp];exact R,C.snoc T,K⟩
     case measure=>simp[intOf];omega
  ·have U:m=0:=by omega
   have HF:Hid (yF l (l.length+1) 0 0 0=some g):=by rw[Hid,H.out,U];simp[yF]
   clear H;go_wp2;go_ret2
   exact NG HF h ⟨_,j,s⟩
end
theorem lw(s:ByteArray)(i:Nat):(s.extract i s.size).size=s.size-i:=by simp[ByteArray.size_extract]
theorem oz(s:ByteArray)(i j k:Nat)(b:j<=s.size)(c:i+k<j):QE (s.extract i j) k=QE s (i+k):=by
 have a:k<(s.extract i j).size:=by rw[ByteArray.size_extract];omega
 rw[vX a,vX (by omega:i+k<s.size)];simp[ByteArray.getElem_extract]
theorem rE(s:ByteArray)(i k:Nat):QE (s.extract i s.size) k=QE s (i+k):=by
 by_cases h:i+k<s.size
 ·exact oz s i s.size k (zg _) h
 ·rw[nw h,nw (by rw[lw];omega)]
theorem Fs(p:Int->Bool)(s:ByteArray)(i:Nat):∀(n j:Nat),s.size-i-j<=n->y6 p (s.extract i s.size) j+i=y6 p s (i+j):=by
 intro n;induction n with
 |zero=>intro j b;rw[gM (by rw[lw];omega),gM (by omega)];omega
 |succ n c=>
  intro j b;by_cases h:i+j<s.size
  ·cases a:p (QE s (i+j)) with
   |true=>rw[lF (by rw[lw];omega) (by rw[rE];exact a),lF h a,c (j+1) (by omega)];rfl
   |false=>rw[m4 (by rw[rE];exact a),m4 a];omega
  ·rw[gM (by rw[lw];omega),gM h];omega
theorem GW(s:ByteArray)(i:Nat)(k:Int):yi (s.extract i s.size) 0 k+i=yi s i k:=by
 unfold yi;have a:=Fs Rc s i _ 0 (zg _);have b:=Fs yH s i _ 0 (zg _);simp only[uV] at a b;repeat' split
 all_goals omega
theorem K9(s:ByteArray)(i:Nat):xg (s.extract i s.size)+i=yi s i (xa (QE s i) (QE s (i+1))):=by
 unfold xg;rw[rE,rE,GW];rfl
theorem eh(s:ByteArray)(i a b x y:Nat)(c:i+a=x)(d:min (i+b) s.size=y):(s.extract i s.size).extract a b=s.extract x y:=by
 rw[ByteArray.extract_extract,c,d]
theorem Gx(s:ByteArray)(i:Nat):yi s i 0=i:=by simp[yi]
theorem L2(s:ByteArray):∀(n i:Nat),i<=s.size->s.size-i<=n->xe n (s.extract i s.size)=(QI n s i).map (·.map Prod.snd):=by
 intro n;induction n with
 |zero=>intro i l o;rw[wR (by rw[lw];omega),pj (by omega)];rfl
 |succ n j=>
  intro i l o;by_cases h:i<s.size
  ·have d:0<(s.extract i s.size).size:=by rw[lw];omega
   have a:=rE s i 0;cases b:qG (QE s i) with
   |true=>
    rw[C4 d (by rw[a];exact b),wG h b,←j (i+1) (by omega) (by omega),eh s i 1 _ (i+1) s.size rfl (by rw[lw];omega)]
   |false=>
    have g:=K9 s i;generalize e:xa (QE s i) (QE s (i+1))=k at g;by_cases c:k=0
    ·subst c;rw[Gx] at g;rw[iD d (by rw[a];exact b) (zf (by omega)),tq h b e];rfl
    ·have q:=rP s i k h e c;by_cases f:6<yi s i k-i
     ·rw[iD d (by rw[a];exact b) (zb (by omega)),wg h b e f];rfl
     ·rw[B8 d (by rw[a];exact b) (by omega) (by omega),sL h b e c f];have p:(s.extract i s.size).extract 0 (xg (s.extract i s.size))=s.extract i (yi s i k):=eh s i _ _ _ _ rfl (by omega);have m:(s.extract i s.size).extract (xg (s.extract i s.size)) (s.extract i s.size).size=s.extract (yi s i k) s.size:=eh s i _ _ _ _ (by omega) (by rw[lw];omega);rw[p,m,j _ (by omega) (by omega),Option.map_map,Option.map_map];rfl
  ·rw[wR (by rw[lw];omega),pj h];rfl
theorem pX(s:ByteArray):xe s.size s=(QG s).map (·.map Prod.snd):=by
 have h:=L2 s s.size 0 (by omega) (by omega);rwa [show s.extract 0 s.size=s by simp] at h
section
variable {t:ByteArray}
theorem iN(t:ByteArray)(i:Nat):QE t i=((t.toList[i]?.map fun b=>(b.toNat:Int)).getD 0):=by
 rw[l7];by_cases h:i<t.size
 ·rw[vX h,yq (by simpa using h)];rfl
 ·rw[nw h,kF (by simpa using h)];rfl
theorem ib(t:ByteArray):t.toList.length=t.size:=by rw[l7];simp
theorem Pv(h:t.size=1)(c:UInt8):(t.toList == [c])=(QE t 0 == (c.toNat:Int)):=by
 have d:=(ib t).trans h;rw[iN];revert d
 generalize t.toList=l;intro d;match l,d with
 |[a],_=>
  by_cases b:a=c
  ·subst b;simp
  ·have:a.toNat≠c.toNat:=fun h=>b (UInt8.toNat_inj.1 h);rw[show([a] == [c])=false by simpa using b];simp;omega
theorem Lq{c:UInt8}{r:List UInt8}(h:QE t 0≠(c.toNat:Int)):(t.toList == c::r)=false:=by
 rw[beq_eq_false_iff_ne];intro a;apply h;rw[iN,a];rfl
structure fL (x:QA):Prop where
 n:(x.1 == 1)=yR (QE x.2 0)
 t:R8 x.1=Rc (QE x.2 0)
 k4:(x.1 == 4)=(x.2.toList == [40])
 k5:(x.1 == 5)=(x.2.toList == [41])
 k6:(x.1 == 6)=(x.2.toList == [44])
 k7:(x.1 == 7)=(x.2.toList == [46])
 k8:(x.1 == 8)=(x.2.toList == [33])
 k9:(x.1 == 9)=(x.2.toList == [58,45])
theorem Gv(h:Rc (QE t 0)=true)(c:UInt8)(a:Rc (c.toNat:Int)=false)(r:List UInt8):(t.toList == c::r)=false:=by
 apply Lq;intro b;rw[b,a] at h;exact zC h (by simp)
theorem o8{k:Int}(h:Rc (QE t 0)=true)(a:k=1∨k=2∨k=3)(b:(k == 1)=yR (QE t 0)):fL (k,t):=by
 refine⟨b,?_,?_,?_,?_,?_,?_,?_⟩
 ·rw[h];rcases a with h|h|h<;>subst h<;>rfl
 all_goals
  show _=(t.toList == _::_);rw[Gv h _ (by decide)];rcases a with h|h|h<;>subst h<;>rfl
theorem GL(i:t.size=2)(c:QE t 0=58)(d:QE t 1=45):fL (9,t):=by
 have e:t.toList=[58,45]:=by
  have f:=(ib t).trans i;rw[iN] at c d;revert f c d
  generalize t.toList=l;intro c d f;match l,f,c,d with
  |[a,b],_,c,d=>
   have c:(a.toNat:Int)=58:=c;have d:(b.toNat:Int)=45:=d;have h:a=58:=UInt8.toNat_inj.1 (by simpa using(by omega:a.toNat=58));have g:b=45:=UInt8.toNat_inj.1 (by simpa using(by omega:b.toNat=45));rw[h,g]
 constructor<;>(try rw[c])<;>(try (show _=(t.toList == _);rw[e]))<;>rfl
theorem Nz{k c:Int}(e:t.size=1)(d:QE t 0=c)(a:gQ c=k)(i:k≠0):fL (k,t):=by
 have b:c=40∨c=41∨c=44∨c=46∨c=33:=by unfold gQ at a;(repeat' split at a)<;>omega
 have f:(t.toList == [58,45])=false:=by
  rw[beq_eq_false_iff_ne];intro g;have:=ib t;rw[g,e] at this;simp at this
 constructor
 case n=>show _=yR (QE t 0);rw[d];rcases b with h|h|h|h|h<;>subst h<;>subst a<;>rfl
 case t=>show _=Rc (QE t 0);rw[d];rcases b with h|h|h|h|h<;>subst h<;>subst a<;>rfl
 case k9=>show _=(t.toList == _);rw[f];rcases b with h|h|h|h|h<;>subst h<;>subst a<;>rfl
 all_goals
  show _=(t.toList == _);rw[Pv e,d];rcases b with h|h|h|h|h<;>subst h<;>subst a<;>rfl
theorem FQ(s:ByteArray)(i:Nat)(k:Int)(h:i<s.size)(b:xa (QE s i) (QE s (i+1))=k)(d:k≠0):fL (k,s.extract i (yi s i k))/\0<(s.extract i (yi s i k)).size:=by
 have g:=rP s i k h b d;have j:(s.extract i (yi s i k)).size=yi s i k-i:=by rw[ByteArray.size_extract];omega
 refine⟨?_,by omega⟩;have a:QE (s.extract i (yi s i k)) 0=QE s i:=oz s i _ 0 g.2 (by omega);have f:=fun(o:i+1<yi s i k)=>oz s i _ 1 g.2 o;unfold xa at b;split at b
 ·rename_i c;subst b;exact o8 (by rw[a];simp[Rc,c]) (zf rfl) (by rw[a,c];rfl)
 ·rename_i e;split at b
  ·rename_i c;subst b;exact o8 (by rw[a];simp[Rc,c]) (zb (zf rfl)) (by rw[a];simp[e])
  ·rename_i p;split at b
   ·rename_i c;subst b;exact o8 (by rw[a];simp[Rc,c]) (zb (zb rfl)) (by rw[a];simp[e])
   ·split at b
    ·rename_i q c;subst b;have m:yi s i 9=i+2:=by simp[yi]
     exact GL (by rw[j,m];omega) (by rw[a];exact c.1) (by rw[f (by omega)];exact c.2)
    ·have n:yi s i k=i+1:=by
      have l:k≠9/\k≠1/\k≠2/\k≠3:=by subst b;unfold gQ;(repeat' split)<;>simp
      simp[yi,d,l]
     exact Nz (by rw[j,n];omega) a b d
theorem JJ(s:ByteArray):∀(n i:Nat) (l:List QA),QI n s i=some l->∀x∈l,fL x/\0<x.2.size:=by
 intro n;induction n with
 |zero=>intro i l h;simp[QI] at h;subst h;simp
 |succ n g=>
  intro i l h;by_cases b:i<s.size
  ·cases c:qG (QE s i) with
   |true=>rw[wG b c] at h;exact g _ _ h
   |false=>
    generalize d:xa (QE s i) (QE s (i+1))=k;by_cases a:k=0
    ·subst a;rw[tq b c d] at h;exact zC h (by simp)
    ·by_cases f:6<yi s i k-i
     ·rw[wg b c d f] at h;exact zC h (by simp)
     ·rw[sL b c d a f] at h;obtain⟨r,j,rfl⟩:=vN.1 h;intro x e;rcases zx.1 e with rfl|e
      ·exact FQ s i k b d a
      ·exact g _ _ j x e
  ·rw[pj b] at h;simp at h;subst h;simp
theorem pf{s:ByteArray}{l:List QA}(h:QG s=some l):∀x∈l,fL x/\0<x.2.size:=JJ s _ _ l h
end
end Go.Proofs.YteampbddflhngaaGreat
