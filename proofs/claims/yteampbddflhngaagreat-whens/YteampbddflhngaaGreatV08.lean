import Derived.Test.YteampbddflhngaaGreatV05
namespace Go.Proofs.YteampbddflhngaaGreat
set_option linter.all false
set_option maxRecDepth 100000
set_option maxHeartbeats 2000000
section
open Go.Proofs.Tryz Go.RowKit
theorem DZ(s:ByteArray)(h:1<s.size):((s.extract 0 2).toList == [58,45])=(decide (Pi s 0=58)&&decide (Pi s 1=45)):=by
 rw[lx,vY (by omega:0<s.size),vY h];have d:(s.extract 0 2).data.toList=[s[0],s[1]]:=by
  rw[ByteArray.data_extract,Array.toList_extract];obtain⟨⟨l⟩⟩:=s;match l,h with
  |a::b::r,_=>rfl
 rw[d];have e:∀(x:UInt8) (n:UInt8),(x == n)=decide ((x.toNat:Int)=(n.toNat:Int)):=fun x n=>by
  by_cases c:x=n
  ·subst c;simp
  ·rw[beq_eq_false_iff_ne.2 c];symm;rw[decide_eq_false_iff_not];intro f;exact c (UInt8.toNat_inj.1 (by omega))
 simp only[List.cons_beq_cons,e,List.nil_beq_eq,List.isEmpty_nil,Bool.and_true];rfl
def xd(s:ByteArray):Nat:=yi s 0 (xa (Pi s 0) (Pi s 1))
theorem J1(s:ByteArray)(w:World)(_:s.size<=500)(f:1<s.size)(a:Pi s 0=58)(c:Pi s 1=45):
  Calls prog 106 #[.string s] w fun e h=>e=.returned (.int .i64 (xd s))/\h=w:=by
 have g:Hid (xd s=2):=by unfold Hid xd;rw[a,c];rfl
 have b:=DZ s f;rw[a,c] at b;have d:((s.extract 0 2).toList == [58,45])=true:=b;clear b a c;go_enter func106,ntmps106;go_wp2_with fail
 go_ret;exact⟨by rw[g.out];rfl,rfl⟩
def rz(s:ByteArray):Prop:=¬1<s.size∨(1<s.size/\((s.extract 0 2).toList == [58,45])=false)
theorem MF(s:ByteArray)(h:¬(Pi s 0=58/\Pi s 1=45)):rz s:=by
 by_cases a:1<s.size
 ·right;refine⟨a,?_⟩;rw[DZ s a];simp only[Bool.and_eq_false_iff,decide_eq_false_iff_not];omega
 ·left;exact a
theorem MA(s:ByteArray)(w:World)(i:s.size<=500)(f:0<s.size)(b:rz s)(h:Q6 (Pi s 0)=true):
  Calls prog 106 #[.string s] w fun e d=>e=.returned (.int .i64 (1))/\d=w:=by
 have c:=fK s 0;have a:=vY f;rw[a] at c h;clear a;rcases b with b|⟨g,b⟩
 all_goals
  go_enter func106,ntmps106;go_wp2_with (first|(go_at_call 105;refine(jV _ _ (by omega) (by omega)).mono ?_;rintro e d ⟨rfl,rfl⟩))
  go_ret;exact⟨rfl,rfl⟩
theorem Hc(s:ByteArray)(w:World)(p:s.size<=500)(m:0<s.size)(i:rz s)(h:Q6 (Pi s 0)=false)(n:yJ (Pi s 0)=true):
  Calls prog 106 #[.string s] w fun e a=>e=.returned (.int .i64 (yA yJ s 0))/\a=w:=by
 have j:=fK s 0;have l:=vY m;rw[l] at j h n;rcases i with i|⟨o,i⟩
 all_goals
  go_enter func106,ntmps106;go_wp2_with (first|(go_at_call 105;with_reducible refine(jV _ _ (by omega) (by omega)).mono ?_;rintro e a ⟨rfl,rfl⟩)|(go_at_call 105;with_reducible refine(hY _ _ (by omega) (by omega)).mono ?_;rintro e a ⟨rfl,rfl⟩)|(go_at_call 105;with_reducible refine(ld _ _ (by omega) (by omega)).mono ?_;rintro e a ⟨rfl,rfl⟩)|(go_at_call 105;with_reducible refine(f9 _ _ (by omega) (by omega)).mono ?_;rintro e a ⟨rfl,rfl⟩))
  go_loop [3] (fun t=>∃k:Nat,k<=s.size/\t=.int .i64 k/\Hid (yA yJ s 0=yA yJ s k)) (fun t=>s.size-(intOf t).toNat)
  case atStart=>exact⟨0,zv _,rfl,rfl⟩
  case round=>
   obtain⟨k,q,rfl,H⟩:=hrel;by_cases c:k<s.size
   ·have d:=vY c;have g:=fK s k;cases b:yJ (Pi s k) with
    |true=>
     have f:Hid (yA yJ s 0=yA yJ s (k+1)):=by rw[Hid.out H,l3 c b];rfl
     rw[d] at b g;go_wp2_with (first|(go_at_call 105;with_reducible refine(jV _ _ (by omega) (by omega)).mono ?_;rintro e a ⟨rfl,rfl⟩)|(go_at_call 105;with_reducible refine(hY _ _ (by omega) (by omega)).mono ?_;rintro e a ⟨rfl,rfl⟩)|(go_at_call 105;with_reducible refine(ld _ _ (by omega) (by omega)).mono ?_;rintro e a ⟨rfl,rfl⟩)|(go_at_call 105;with_reducible refine(f9 _ _ (by omega) (by omega)).mono ?_;rintro e a ⟨rfl,rfl⟩))
     go_round
     case rel=>exact⟨k+1,by omega,by go_num,f⟩
     case measure=>simp[intOf];omega
    |false=>
     have f:Hid (yA yJ s 0=k):=by rw[Hid.out H,lG b];rfl
     rw[d] at b g;go_wp2_with (first|(go_at_call 105;with_reducible refine(jV _ _ (by omega) (by omega)).mono ?_;rintro e a ⟨rfl,rfl⟩)|(go_at_call 105;with_reducible refine(hY _ _ (by omega) (by omega)).mono ?_;rintro e a ⟨rfl,rfl⟩)|(go_at_call 105;with_reducible refine(ld _ _ (by omega) (by omega)).mono ?_;rintro e a ⟨rfl,rfl⟩)|(go_at_call 105;with_reducible refine(f9 _ _ (by omega) (by omega)).mono ?_;rintro e a ⟨rfl,rfl⟩))
     go_ret;exact⟨by rw[Hid.out f];rfl,rfl⟩
   ·have f:Hid (yA yJ s 0=k):=by rw[Hid.out H,gx c];rfl
    go_wp2_with (first|(go_at_call 105;with_reducible refine(jV _ _ (by omega) (by omega)).mono ?_;rintro e a ⟨rfl,rfl⟩)|(go_at_call 105;with_reducible refine(hY _ _ (by omega) (by omega)).mono ?_;rintro e a ⟨rfl,rfl⟩)|(go_at_call 105;with_reducible refine(ld _ _ (by omega) (by omega)).mono ?_;rintro e a ⟨rfl,rfl⟩)|(go_at_call 105;with_reducible refine(f9 _ _ (by omega) (by omega)).mono ?_;rintro e a ⟨rfl,rfl⟩))
    go_ret;exact⟨by rw[Hid.out f];rfl,rfl⟩
theorem JN(s:ByteArray)(w:World)(q:s.size<=500)(m:0<s.size)(i:rz s)(h:Q6 (Pi s 0)=false)(o:yJ (Pi s 0)=false)(p:lR (Pi s 0)=true):
  Calls prog 106 #[.string s] w fun e a=>e=.returned (.int .i64 (yA P9 s 0))/\a=w:=by
 have j:=fK s 0;have l:=vY m;rw[l] at j h o p;rcases i with i|⟨n,i⟩
 all_goals
  go_enter func106,ntmps106;go_wp2_with (first|(go_at_call 105;with_reducible refine(jV _ _ (by omega) (by omega)).mono ?_;rintro e a ⟨rfl,rfl⟩)|(go_at_call 105;with_reducible refine(hY _ _ (by omega) (by omega)).mono ?_;rintro e a ⟨rfl,rfl⟩)|(go_at_call 105;with_reducible refine(ld _ _ (by omega) (by omega)).mono ?_;rintro e a ⟨rfl,rfl⟩)|(go_at_call 105;with_reducible refine(f9 _ _ (by omega) (by omega)).mono ?_;rintro e a ⟨rfl,rfl⟩))
  go_loop [3] (fun t=>∃k:Nat,k<=s.size/\t=.int .i64 k/\Hid (yA P9 s 0=yA P9 s k)) (fun t=>s.size-(intOf t).toNat)
  case atStart=>exact⟨0,zv _,rfl,rfl⟩
  case round=>
   obtain⟨k,r,rfl,H⟩:=hrel;by_cases c:k<s.size
   ·have d:=vY c;have g:=fK s k;cases b:P9 (Pi s k) with
    |true=>
     have f:Hid (yA P9 s 0=yA P9 s (k+1)):=by rw[Hid.out H,l3 c b];rfl
     rw[d] at b g;go_wp2_with (first|(go_at_call 105;with_reducible refine(jV _ _ (by omega) (by omega)).mono ?_;rintro e a ⟨rfl,rfl⟩)|(go_at_call 105;with_reducible refine(hY _ _ (by omega) (by omega)).mono ?_;rintro e a ⟨rfl,rfl⟩)|(go_at_call 105;with_reducible refine(ld _ _ (by omega) (by omega)).mono ?_;rintro e a ⟨rfl,rfl⟩)|(go_at_call 105;with_reducible refine(f9 _ _ (by omega) (by omega)).mono ?_;rintro e a ⟨rfl,rfl⟩))
     go_round
     case rel=>exact⟨k+1,by omega,by go_num,f⟩
     case measure=>simp[intOf];omega
    |false=>
     have f:Hid (yA P9 s 0=k):=by rw[Hid.out H,lG b];rfl
     rw[d] at b g;go_wp2_with (first|(go_at_call 105;with_reducible refine(jV _ _ (by omega) (by omega)).mono ?_;rintro e a ⟨rfl,rfl⟩)|(go_at_call 105;with_reducible refine(hY _ _ (by omega) (by omega)).mono ?_;rintro e a ⟨rfl,rfl⟩)|(go_at_call 105;with_reducible refine(ld _ _ (by omega) (by omega)).mono ?_;rintro e a ⟨rfl,rfl⟩)|(go_at_call 105;with_reducible refine(f9 _ _ (by omega) (by omega)).mono ?_;rintro e a ⟨rfl,rfl⟩))
     go_ret;exact⟨by rw[Hid.out f];rfl,rfl⟩
   ·have f:Hid (yA P9 s 0=k):=by rw[Hid.out H,gx c];rfl
    go_wp2_with (first|(go_at_call 105;with_reducible refine(jV _ _ (by omega) (by omega)).mono ?_;rintro e a ⟨rfl,rfl⟩)|(go_at_call 105;with_reducible refine(hY _ _ (by omega) (by omega)).mono ?_;rintro e a ⟨rfl,rfl⟩)|(go_at_call 105;with_reducible refine(ld _ _ (by omega) (by omega)).mono ?_;rintro e a ⟨rfl,rfl⟩)|(go_at_call 105;with_reducible refine(f9 _ _ (by omega) (by omega)).mono ?_;rintro e a ⟨rfl,rfl⟩))
    go_ret;exact⟨by rw[Hid.out f];rfl,rfl⟩
theorem K9(s:ByteArray)(w:World)(k:s.size<=500)(f:0<s.size)(b:rz s)(h:Q6 (Pi s 0)=false)(i:yJ (Pi s 0)=false)(j:lR (Pi s 0)=false):
  Calls prog 106 #[.string s] w fun e a=>e=.returned (.int .i64 (0))/\a=w:=by
 have c:=fK s 0;have d:=vY f;rw[d] at c h i j;rcases b with b|⟨g,b⟩
 all_goals
  go_enter func106,ntmps106;go_wp2_with (first|(go_at_call 105;with_reducible refine(jV _ _ (by omega) (by omega)).mono ?_;rintro e a ⟨rfl,rfl⟩)|(go_at_call 105;with_reducible refine(hY _ _ (by omega) (by omega)).mono ?_;rintro e a ⟨rfl,rfl⟩)|(go_at_call 105;with_reducible refine(ld _ _ (by omega) (by omega)).mono ?_;rintro e a ⟨rfl,rfl⟩)|(go_at_call 105;with_reducible refine(f9 _ _ (by omega) (by omega)).mono ?_;rintro e a ⟨rfl,rfl⟩))
  go_ret;exact⟨rfl,rfl⟩
theorem Q5(s:ByteArray)(w:World)(f:s.size<=500)(g:0<s.size):
  Calls prog 106 #[.string s] w fun e l=>e=.returned (.int .i64 (xd s))/\l=w:=by
 by_cases a:Pi s 0=58/\Pi s 1=45
 ·refine J1 s w f ?_ a.1 a.2;false_or_by_contra;rename_i d;rw[np d] at a;omega
 ·have d:=MF s a;cases h:Q6 (Pi s 0) with
  |true=>
   have:=MA s w f g d h;have e:xd s=1:=by
    unfold xd xa;simp only[Q6,dN,beq_iff_eq] at h;rcases h with (((h|h)|h)|h)|h<;>rw[h]<;>rfl
   rw[e];exact this
  |false=>
   have j:gL (Pi s 0)=0:=by
    simp only[Q6,m9,beq_eq_false_iff_ne] at h;unfold gL;simp[h]
   cases c:yJ (Pi s 0) with
   |true=>
    have:=Hc s w f g d h c;have e:xd s=yA yJ s 0:=by
     have i:yQ (Pi s 0)=false:=by simp[yJ,yQ] at c ⊢;omega
     have k:vE (Pi s 0)=false:=by simp[yJ,vE] at c ⊢;omega
     unfold xd xa;simp[i,k,c,yi]
    rw[e];exact this
   |false=>
    cases b:lR (Pi s 0) with
    |true=>
     have:=JN s w f g d h c b;have e:xd s=yA P9 s 0:=by
      unfold xd xa;simp only[lR,dN] at b;cases i:yQ (Pi s 0) with
      |true=>simp[yi]
      |false=>rw[i] at b;simp at b;simp[b,yi]
     rw[e];exact this
    |false=>
     have:=K9 s w f g d h c b;have e:xd s=0:=by
      simp only[lR,m9] at b;unfold xd xa;simp[b.1,b.2,c,a,j,yi]
     rw[e];exact this
end
section
open Go.Proofs.Tryz Go.RowKit
variable {n:Nat}{s:ByteArray}{o:Option (List ByteArray)}
def xh:Nat->ByteArray->Option (List ByteArray)
 |0,_=>some []
 |n+1,s=>if s.size=0 then some [] else if vT (Pi s 0) then xh n (s.extract 1 s.size) else if xd s=0 then none else if 6<xd s then none
  else(xh n (s.extract (xd s) s.size)).map (s.extract 0 (xd s)::·)
theorem eS(h:s.size=0):xh n s=some []:=by cases n<;>simp[xh,h]
theorem Db(h:0<s.size)(a:vT (Pi s 0)=true):xh (n+1) s=xh n (s.extract 1 s.size):=by simp[xh,Nat.ne_of_gt h,a]
theorem ec(h:0<s.size)(b:vT (Pi s 0)=false)(a:xd s=0∨6<xd s):xh (n+1) s=none:=by
 simp only[xh,za (Nat.ne_of_gt h),b];rcases a with a|a
 ·simp[a]
 ·simp[a]
theorem oX(h:0<s.size)(b:vT (Pi s 0)=false)(c:xd s≠0)(a:¬6<xd s):xh (n+1) s=(xh n (s.extract (xd s) s.size)).map (s.extract 0 (xd s)::·):=by
 simp[xh,Nat.ne_of_gt h,b,c,a]
theorem JF(h:6<xd s):Pi s 0≠58/\Q6 (Pi s 0)=false:=by
 unfold xd xa at h;refine⟨fun c=>?_,?_⟩
 ·rw[c] at h;by_cases b:Pi s 1=45
  ·rw[b] at h;simp[yQ,vE,yJ,yi] at h
  ·simp[yQ,vE,yJ,yi,b,gL] at h
 ·false_or_by_contra
  rename_i a;simp only[pB,Q6,dN,beq_iff_eq] at a;rcases a with (((a|a)|a)|a)|a<;>(rw[a] at h;simp[yQ,vE,yJ,yi,gL] at h)
theorem G5(s:ByteArray)(a:0<s.size):xd s<=s.size:=by
 unfold xd;by_cases h:xa (Pi s 0) (Pi s 1)=0
 ·rw[h];simp[yi]
 ·exact(pP s 0 _ a rfl h).2
def wJ(o:Option (List ByteArray))(w:World)(e:Ending)(a:World):Prop:=
 Below w.heap.size w a/\match o with
  |none=>e=.returned (.tuple #[.slice none 0 0,.bool false])
  |some l=>∃v,e=.returned (.tuple #[v,.bool true])/\a.ownsRow w.heap.size 9 1 v l.length (l.map Value.string)
theorem it{w a:World}(h:Hid (o=none))(c:Below w.heap.size w a):wJ o w (.returned (.tuple #[.slice none 0 0,.bool false])) a:=by
 have b:o=none:=h;subst b;exact⟨c,rfl⟩
theorem Hn{w a:World}{l:List ByteArray}{v:Value}(h:Hid (o=some l))(d:Below w.heap.size w a)(c:a.ownsRow w.heap.size 9 1 v l.length (l.map Value.string)):wJ o w (.returned (.tuple #[v,.bool true])) a:=by
 have b:o=some l:=h;subst b;exact⟨d,v,rfl,c⟩
theorem su(s:ByteArray)(w:World)(V:s.size<=500):
  Calls prog 65 #[.string s] w fun e d=>wJ (xh s.size s) w e d:=by
 obtain⟨Q,R,F,C,E⟩:=info_parts O4;go_enter func65,ntmps65;go_wp2;go_loopg [0,4] (s.size) (fun n u v wr=>∃(a:ByteArray) (b:List ByteArray) (m:Nat),u=.string a/\a.size<=n/\a.size<=m/\b.length+a.size<=s.size/\Hid (xh s.size s=(xh m a).map (b++·)) ∧
   wr.ownsRow w.heap.size 9 1 v b.length (b.map Value.string)/\Below w.heap.size w wr)
 case atStart=>exact⟨s,[],s.size,rfl,zh _,zh _,by simp,(by simp[Hid]),yK _ _ _ _,zo _ _⟩
 case round=>
  obtain⟨a,b,m,rfl,T,X,N,H,j,g⟩:=hrel;by_cases x:0<a.size
  ·have p:=fK a 0;have f:=vY x;have B:(a.toList == [])=false:=by
    rw[lx,beq_eq_false_iff_ne];intro h;have:a.data.toList.length=a.size:=nt;rw[h] at this;simp at this;omega
   obtain⟨m,rfl⟩:∃P,m=P+1:=⟨m-1,by omega⟩;cases r:vT (Pi a 0) with
   |true=>
    have l:Hid (xh s.size s=(xh m (a.extract 1 a.size)).map (b++·)):=by rw[Hid,H.out,Db x r]
    have y:(a.extract 1 a.size).size=a.size-1:=by rw[ByteArray.size_extract];omega
    rw[f] at r p;clear H f;go_wp2_with (first|(go_at_call 105;with_reducible refine(nK _ _ (by omega) (by omega)).mono ?_;rintro e d ⟨rfl,rfl⟩))
    go_roundg (a.size-1)
    case measure=>omega
    case rel=>exact⟨_,b,m,rfl,by omega,by omega,by omega,l,j,g⟩
   |false=>
    have i:=OY fun W=>Q5 a W (by omega) x;have z:=G5 a x;by_cases k:xd a=0∨6<xd a
    ·have l:Hid (xh s.size s=none):=by rw[Hid,H.out,ec x r k];rfl
     rcases k with k|k
     ·rw[k] at i;rw[f] at r p;clear H f k z;by_cases c:((a[0].toNat:Int) == 58)=true
      ·go_wp2_with (first|(go_at_call 105;with_reducible refine(nK _ _ (by omega) (by omega)).mono ?_;rintro e d ⟨rfl,rfl⟩)|(go_at_call 105;with_reducible refine(jV _ _ (by omega) (by omega)).mono ?_;rintro e d ⟨rfl,rfl⟩)|(go_at_call 106;refine(i.out _).mono ?_;rintro e d ⟨rfl,rfl⟩))
       go_ret2
       exact it l g
      ·have q:((a[0].toNat:Int) == 58)=false:=by simpa using c
       clear c;go_wp2_with (first|(go_at_call 105;with_reducible refine(nK _ _ (by omega) (by omega)).mono ?_;rintro e d ⟨rfl,rfl⟩)|(go_at_call 105;with_reducible refine(jV _ _ (by omega) (by omega)).mono ?_;rintro e d ⟨rfl,rfl⟩)|(go_at_call 106;refine(i.out _).mono ?_;rintro e d ⟨rfl,rfl⟩))
       go_ret2
       exact it l g
     ·obtain⟨c,A⟩:=JF k;rw[f] at r p c A;have q:((a[0].toNat:Int) == 58)=false:=by simpa using c
      clear H f c;generalize xd a=t at *;have L:((t:Int) == 0)=false:=by rw[beq_eq_false_iff_ne];omega
      go_wp2_with (first|(go_at_call 105;with_reducible refine(nK _ _ (by omega) (by omega)).mono ?_;rintro e d ⟨rfl,rfl⟩)|(go_at_call 105;with_reducible refine(jV _ _ (by omega) (by omega)).mono ?_;rintro e d ⟨rfl,rfl⟩)|(go_at_call 106;refine(i.out _).mono ?_;rintro e d ⟨rfl,rfl⟩))
      go_ret2
      exact it l g
    ·have D:xd a≠0:=fun h=>k (zf h);have M:¬6<xd a:=fun h=>k (ze h);have l:Hid (xh s.size s=(xh m (a.extract (xd a) a.size)).map ((b++[a.extract 0 (xd a)])++·)):=by rw[Hid,H.out,oX x r D M,rg]
     rw[f] at r p;clear H f k;generalize xd a=t at *;have L:((t:Int) == 0)=false:=by rw[beq_eq_false_iff_ne];omega
     have y:(a.extract t a.size).size=a.size-t:=by rw[ByteArray.size_extract];omega
     by_cases c:((a[0].toNat:Int) == 58)=true;rotate_left
     have q:((a[0].toNat:Int) == 58)=false:=by simpa using c
     clear c
     all_goals
      go_wp2_with (first|(go_at_call 105;with_reducible refine(nK _ _ (by omega) (by omega)).mono ?_;rintro e d ⟨rfl,rfl⟩)|(go_at_call 105;with_reducible refine(jV _ _ (by omega) (by omega)).mono ?_;rintro e d ⟨rfl,rfl⟩)|(go_at_call 106;refine(i.out _).mono ?_;rintro e d ⟨rfl,rfl⟩)|(at_builtin;refine jY _ _ _ _ rfl (.tmp 34) (.tmp 38) 30 rfl w.heap.size 9 Q _ 1 16 underlying30 R F C E rfl (by decide) _ _ _ rfl j (zo _ _) _ _ rfl (by simp) rfl (by simp[Value.oneCell']) (by omega) (by omega) g.size ?_;intro Y U I J K G S O;clear K G))
      go_roundg (a.size-1)
      case measure=>omega
      case rel=>exact⟨_,b++[a.extract 0 t],m,rfl,by omega,by omega,by simp;omega,l,by simpa using I,g.trans J⟩
  ·have y:a.size=0:=by omega
   have l:Hid (xh s.size s=some b):=by rw[Hid,H.out,eS y];simp
   have B:(a.toList == [])=true:=by
    rw[lx,beq_iff_eq];exact pT (by rw[nt];exact y)
   clear H;go_wp2_with (first|(go_at_call 105;with_reducible refine(nK _ _ (by omega) (by omega)).mono ?_;rintro e d ⟨rfl,rfl⟩)|(go_at_call 105;with_reducible refine(jV _ _ (by omega) (by omega)).mono ?_;rintro e d ⟨rfl,rfl⟩)|(go_at_call 106;refine(i.out _).mono ?_;rintro e d ⟨rfl,rfl⟩))
   go_ret2
   exact Hn l g j
end
section
open Go.Proofs.Tryz Go.RowKit
variable {w:World}{v:Value}{l:List ByteArray}
def SV(w:World)(v:Value)(l:List ByteArray):Prop:=∃c a,v=.slice c l.length a/\l.length<=a ∧
 ((c=none/\a=0)∨∃b o,c=some ⟨b,o,none⟩/\b<w.heap.size/\∀k (d:k<l.length),w.cell? ⟨b,o+k,none⟩=some (.string l[k]))
theorem SV.of{b:Nat}(h:w.ownsRow b 9 1 v l.length (l.map Value.string)):SV w v l:=by
 have j:=h;obtain⟨_,⟨c,i⟩|⟨g,e,m,c,_,o,n,_⟩⟩:=h
 ·refine⟨none,0,?_,by omega,zf ⟨rfl,rfl⟩⟩;rw[c,i]
 ·refine⟨_,e,c,n,ze ⟨g,0,rfl,(kD.1 o).1,fun k p=>?_⟩⟩;obtain⟨q,f,a,_,_,d⟩:=y7 j (by omega);rw[c] at a;simp at a;obtain⟨rfl,_⟩:=a;rw[uL];exact d k _ (by simp[p])
theorem SV.qw(h:SV w v l):∃b a,v=.slice b l.length a:=by obtain⟨b,a,c,_⟩:=h;exact⟨b,a,c⟩
theorem SV.below{g:World}(h:SV w v l)(f:Below w.heap.size w g):SV g v l:=by
 obtain⟨n,d,j,q,c⟩:=h;refine⟨n,d,j,q,?_⟩;rcases c with c|⟨b,o,m,a,e⟩
 ·exact zf c
 ·exact ze ⟨b,o,m,xo a f.size,fun k i=>(f.cell (p:=⟨b,o+k,none⟩) a).trans (e k i)⟩
theorem SV.cell{w:World}{g:Option Addr}{n cap:Nat}{l:List ByteArray}(h:SV w (.slice g n cap) l)(k:Nat)(m:k<l.length):∃b o,g=some ⟨b,o,none⟩/\b<w.heap.size/\w.cell? ⟨b,o+k,none⟩=some (.string l[k]):=by
 obtain⟨j,f,d,p,e⟩:=h;simp at d;obtain⟨rfl,_,rfl⟩:=d;rcases e with⟨_,e⟩|⟨b,o,i,c,a⟩
 ·omega
 ·exact⟨b,o,i,c,a k m⟩
theorem SV.cells{g:Option Addr}{n cap:Nat}(h:SV w (.slice g n cap) l)(m:0<l.length):∃b o,g=some ⟨b,o,none⟩/\b<w.heap.size/\∀k (q:k<l.length),w.cell? ⟨b,o+k,none⟩=some (.string l[k]):=by
 obtain⟨j,f,d,p,e⟩:=h;simp at d;obtain⟨rfl,_,rfl⟩:=d;rcases e with⟨_,e⟩|⟨b,o,i,c,a⟩
 ·omega
 ·exact⟨b,o,i,c,a⟩
section
variable {P:Program} {ops:Array Oper} {rest:List Oper} {o:Oper} {a:Act} {Q:Exit->Act->World->Prop}
theorem qN(w E:World)(U:o.guard=none)(x:Operand)(t e:TypeId)(lo p:Option Operand)(A:o.op=.slice t x lo p none)
  (M:P.underlying t=some (.slice e)) (y:TypeInfo) (O:P.info? e=some y) (C:P.cellsOf e=1) (v:Value) (l:List ByteArray) (H:a.eval x=v) (R:SV E v l)
  (i j:Nat) (z:lo.map a.eval=none/\i=0∨lo.map a.eval=some (.int .i64 (i:Int))) (u:p.map a.eval=none/\j=l.length∨p.map a.eval=some (.int .i64 (j:Int))) (N:i<=j) (X:j<=l.length) (n:Nat) (I:j-i=n)
  (L:∀f c,SV E (.slice f n c) ((l.drop i).take n)->wpList P ops Q rest (a.put o.dst (.slice f n c)) w):wpList P ops Q (o::rest) a w:=by
 subst I;obtain⟨f,c,rfl,W,S⟩:=R;have V:(j:Int)<=(c:Int):=by omega
 have J:(i:Int)<=(j:Int):=by omega
 have T:(Instr.sliceBounds true l.length c (lo.map a.eval) (p.map a.eval) none).run P w=.ok (i,j,c) w:=by
  rcases z with⟨F,rfl⟩|F<;>rcases u with⟨G,rfl⟩|G<;>rw[F,G]<;>simp[Instr.sliceBounds,run_sliceBound,V,J]
 refine wpList_plain U fun K r=>?_;unfold Oper.wp;have d:((l.drop i).take (j-i)).length=j-i:=by simp;omega
 have B:(sizeOf e).run P w=.ok 1 w:=by rw[←C];simp[sizeOf,typeInfo,Program.cellsOf,O]
 have g:(Instr.sliceAt t (.slice f l.length c) (lo.map a.eval) (p.map a.eval) none).run P w=.ok (.slice (if c=i then f else f.map (·.add (i*1))) (j-i) (c-i)) w:=by
  simp[Instr.sliceAt,run_underlying M,Instr.slice,T,B]
 simp only[execOp,A,H,Option.map_none,g,Sem.run_bind,Result.andThen];simp;refine r _ _ (L _ _ ?_);refine⟨_,_,by rw[d],by rw[d];omega,?_⟩;rcases S with⟨rfl,rfl⟩|⟨b,D,rfl,h,q⟩
 ·left;exact⟨by split<;>rfl,by omega⟩
 ·right;by_cases m:c=i
  ·refine⟨b,D,by rw[zb m],h,fun k s=>?_⟩;rw[d] at s;omega
  ·refine⟨b,D+i,?_,h,fun k s=>?_⟩
   ·rw[za m];simp[Addr.add_lit]
   ·rw[d] at s;rw[Nat.add_assoc,q (i+k) (by omega)];simp
end
theorem OC:prog.cellsOf 9=1:=by kernel_rfl
end
section
open Go.RowKit
variable {lo:Nat}{l:List ByteArray}
def gB(l:List ByteArray)(i:Nat):ByteArray:=l.getD i ByteArray.empty
theorem xt{i:Nat}(h:i<l.length):l[i]=gB l i:=by simp[gB,h]
def QF(l:List ByteArray)(i:Nat):Bool:=if i%2=0 then P9 (Pi (gB l i) 0) else((gB l i).toList == [44])
def uz(l:List ByteArray):Nat->List ByteArray
 |0=>[]
 |i+1=>uz l i++(if 2<=i/\i%2=0 then [gB l i] else [])
theorem iD(l:List ByteArray):∀i,(uz l i).length<=i
 |0=>zh _
 |i+1=>by have:=iD l i;unfold uz;split<;>simp<;>omega
def vN(l:List ByteArray):Nat->Bool
 |0=>true
 |i+1=>vN l i&&(decide (i<2)||QF l i)
theorem Ap{i:Nat}(h:vN l i=false):∀k,i<=k->vN l k=false:=by
 intro k c;induction k with
 |zero=>
  have:i=0:=by omega
  subst this;exact h
 |succ k b=>
  rcases gA k i with a|a
  ·have:i=k+1:=by omega
   subst this;exact h
  ·simp[vN,b a]
def xf(neg:Bool)(l:List ByteArray):Option zj:=
 if l.length=0 then none else if yQ (Pi (gB l 0) 0)=false then none else if l.length=1 then some ⟨neg,gB l 0,[]⟩
 else if l.length<4∨l.length%2=1∨((gB l 1).toList == [40])=false∨((gB l (l.length-1)).toList == [41])=false then none
 else if vN l (l.length-1) then some ⟨neg,gB l 0,uz l (l.length-1)⟩ else none
def PK(l:List ByteArray)(a:Bool):Bool:=decide (0<l.length)&&((gB l 0).toList == [33])&&!a
def jp(l:List ByteArray)(a:Bool):Option zj:=if PK l a then xf true l.tail else xf false l
def jw(o:Option zj)(w:World)(e:Ending)(d:World):Prop:=
 Below w.heap.size w d/\match o with
  |none=>∃b p g n c,e=.returned (.tuple #[.agg #[.bool b,.string p,.slice g n c],.bool false])
  |some a=>∃f,e=.returned (.tuple #[.agg #[.bool a.neg,.string a.pred,f],.bool true])/\Pg w.heap.size d f a.args
theorem lJ{a:Bool}(c:PK l a=false):¬0<l.length∨(0<l.length/\((gB l 0).toList == [33])=false)∨((0<l.length/\((gB l 0).toList == [33])=true)/\a=true):=by
 by_cases b:0<l.length
 ·right;simp only[PK,decide_eq_true b,ml,Bool.and_eq_false_iff] at c;cases h:((gB l 0).toList == [33]) with
  |false=>exact zf ⟨b,rfl⟩
  |true=>rw[h] at c;simp at c;exact ze ⟨⟨b,rfl⟩,c⟩
 ·exact zf b
end
section
open Go.Proofs.Tryz Go.RowKit
theorem IK(w:World)(v:Value)(L:List ByteArray)(b:Bool)(c:SV w v L)(d:∀y∈L,0<y.size)(g:L.length<=500)(i:PK L b=false)(j:L.length=0):
  Calls prog 152 #[v,.bool b] w fun e k=>jw none w e k:=by
 have a:=lJ i;obtain⟨h,f,rfl⟩:=c.qw;rcases a with a|⟨a,_⟩|⟨⟨a,_⟩,rfl⟩
 ·go_enter func152,ntmps152;go_wp2;exact zJ (v:=.tuple #[.agg #[.bool false,.string ByteArray.empty,.slice none 0 0],.bool false]) (by simp[results,results152,go_sem];try rfl) rfl ⟨(by go_grown),_,_,_,_,_,rfl⟩
 ·omega
 ·omega
theorem Iv(w:World)(v:Value)(L:List ByteArray)(c:Bool)(d:SV w v L)(h:∀y∈L,0<y.size)(m:L.length<=500)(p:PK L c=false)(q:¬L.length=0)(r:yQ (Pi (gB L 0) 0)=false):
  Calls prog 152 #[v,.bool c] w fun e l=>jw none w e l:=by
 have a:=lJ p;obtain⟨n,k,rfl⟩:=d.qw;have g:0<(gB L 0).size:=by rw[←xt (by omega:0<L.length)];exact h _ (zu _)
 obtain⟨b,o,rfl,j,i⟩:=d.cells (by omega);have f:=i 0 (by omega);rw[xt (by omega)] at f;rw[uI] at f;rcases a with a|⟨_,a⟩|⟨⟨_,a⟩,rfl⟩
 ·omega
 all_goals
  go_enter func152,ntmps152;go_wp2_with (first|(go_at_call 184;refine(kE _ _ g).mono ?_;rintro e l ⟨rfl,rfl⟩))
  exact zJ (v:=.tuple #[.agg #[.bool false,.string ByteArray.empty,.slice none 0 0],.bool false]) (by simp[results,results152,go_sem];try rfl) rfl ⟨(by go_grown),_,_,_,_,_,rfl⟩
theorem IC(w:World)(v:Value)(L:List ByteArray)(c:Bool)(d:SV w v L)(h:∀y∈L,0<y.size)(m:L.length<=500)(q:PK L c=false)(r:¬L.length=0)(s:yQ (Pi (gB L 0) 0)=true)(n:L.length=1):
  Calls prog 152 #[v,.bool c] w fun e l=>jw (some ⟨false,gB L 0,[]⟩) w e l:=by
 have a:=lJ q;obtain⟨p,k,rfl⟩:=d.qw;have g:0<(gB L 0).size:=by rw[←xt (by omega:0<L.length)];exact h _ (zu _)
 obtain⟨b,o,rfl,j,i⟩:=d.cells (by omega);have f:=i 0 (by omega);rw[xt (by omega)] at f;rw[uI] at f;rcases a with a|⟨_,a⟩|⟨⟨_,a⟩,rfl⟩
 ·omega
 all_goals
  go_enter func152,ntmps152;go_wp2_with (first|(go_at_call 184;refine(kE _ _ g).mono ?_;rintro e l ⟨rfl,rfl⟩))
  exact zJ (v:=.tuple #[.agg #[.bool false,.string (gB L 0),.slice none 0 0],.bool true]) (by simp[results,results152,go_sem]) rfl ⟨(by go_grown),_,rfl,Pg.nil _⟩
theorem N1(w:World)(v:Value)(L:List ByteArray)(c:Bool)(d:SV w v L)(h:∀y∈L,0<y.size)(m:L.length<=500)(q:PK L c=false)(s:¬L.length=0)(t:yQ (Pi (gB L 0) 0)=true)(n:¬L.length=1)(r:L.length<4):
  Calls prog 152 #[v,.bool c] w fun e l=>jw none w e l:=by
 have a:=lJ q;obtain⟨p,k,rfl⟩:=d.qw;have g:0<(gB L 0).size:=by rw[←xt (by omega:0<L.length)];exact h _ (zu _)
 obtain⟨b,o,rfl,j,i⟩:=d.cells (by omega);have f:=i 0 (by omega);rw[xt (by omega)] at f;rw[uI] at f;rcases a with a|⟨_,a⟩|⟨⟨_,a⟩,rfl⟩
 ·omega
 all_goals
  go_enter func152,ntmps152;go_wp2_with (first|(go_at_call 184;refine(kE _ _ g).mono ?_;rintro e l ⟨rfl,rfl⟩))
  exact zJ (v:=.tuple #[.agg #[.bool false,.string (gB L 0),.slice none 0 0],.bool false]) (by simp[results,results152,go_sem];try rfl) rfl ⟨(by go_grown),_,_,_,_,_,rfl⟩
theorem LE(w:World)(v:Value)(L:List ByteArray)(c:Bool)(d:SV w v L)(h:∀y∈L,0<y.size)(m:L.length<=500)(r:PK L c=false)(t:¬L.length=0)(u:yQ (Pi (gB L 0) 0)=true)(n:¬L.length=1)(s:¬L.length<4)(q:L.length%2=1):
  Calls prog 152 #[v,.bool c] w fun e l=>jw none w e l:=by
 have a:=lJ r;obtain⟨p,k,rfl⟩:=d.qw;have g:0<(gB L 0).size:=by rw[←xt (by omega:0<L.length)];exact h _ (zu _)
 obtain⟨b,o,rfl,j,i⟩:=d.cells (by omega);have f:=i 0 (by omega);rw[xt (by omega)] at f;rw[uI] at f;rcases a with a|⟨_,a⟩|⟨⟨_,a⟩,rfl⟩
 ·omega
 all_goals
  go_enter func152,ntmps152;go_wp2_with (first|(go_at_call 184;refine(kE _ _ g).mono ?_;rintro e l ⟨rfl,rfl⟩))
  exact zJ (v:=.tuple #[.agg #[.bool false,.string (gB L 0),.slice none 0 0],.bool false]) (by simp[results,results152,go_sem];try rfl) rfl ⟨(by go_grown),_,_,_,_,_,rfl⟩
theorem KZ(w:World)(v:Value)(L:List ByteArray)(c:Bool)(g:SV w v L)(i:∀y∈L,0<y.size)(s:L.length<=500)(u:PK L c=false)(r:¬L.length=0)(z:yQ (Pi (gB L 0) 0)=true)(p:¬L.length=1)(x:¬L.length<4)(n:¬L.length%2=1)(t:((gB L 1).toList == [40])=false):
  Calls prog 152 #[v,.bool c] w fun e k=>jw none w e k:=by
 have a:=lJ u;obtain⟨q,l,rfl⟩:=g.qw;have j:0<(gB L 0).size:=by rw[←xt (by omega:0<L.length)];exact i _ (zu _)
 obtain⟨b,o,rfl,m,d⟩:=g.cells (by omega);have f:=d 0 (by omega);have h:=d 1 (by omega);rw[xt (by omega)] at f h;rw[uI] at f;rcases a with a|⟨_,a⟩|⟨⟨_,a⟩,rfl⟩
 ·omega
 all_goals
  go_enter func152,ntmps152;go_wp2_with (first|(go_at_call 184;refine(kE _ _ j).mono ?_;rintro e k ⟨rfl,rfl⟩))
  exact zJ (v:=.tuple #[.agg #[.bool false,.string (gB L 0),.slice none 0 0],.bool false]) (by simp[results,results152,go_sem];try rfl) rfl ⟨(by go_grown),_,_,_,_,_,rfl⟩
theorem MN(w:World)(v:Value)(L:List ByteArray)(c:Bool)(g:SV w v L)(i:∀y∈L,0<y.size)(t:L.length<=500)(z:PK L c=false)(s:¬L.length=0)(B:yQ (Pi (gB L 0) 0)=true)(q:¬L.length=1)(A:¬L.length<4)(p:¬L.length%2=1)(x:((gB L 1).toList == [40])=true)(u:((gB L (L.length-1)).toList == [41])=false):
  Calls prog 152 #[v,.bool c] w fun e l=>jw none w e l:=by
 have a:=lJ z;obtain⟨r,m,rfl⟩:=g.qw;have j:0<(gB L 0).size:=by rw[←xt (by omega:0<L.length)];exact i _ (zu _)
 obtain⟨b,o,rfl,n,d⟩:=g.cells (by omega);have f:=d 0 (by omega);have h:=d 1 (by omega);have k:=d (L.length-1) (by omega);rw[xt (by omega)] at f h k;rw[uI] at f;rcases a with a|⟨_,a⟩|⟨⟨_,a⟩,rfl⟩
 ·omega
 all_goals
  go_enter func152,ntmps152;go_wp2_with (first|(go_at_call 184;refine(kE _ _ j).mono ?_;rintro e l ⟨rfl,rfl⟩))
  exact zJ (v:=.tuple #[.agg #[.bool false,.string (gB L 0),.slice none 0 0],.bool false]) (by simp[results,results152,go_sem];try rfl) rfl ⟨(by go_grown),_,_,_,_,_,rfl⟩
theorem Js(w:World)(v:Value)(x:ByteArray)(L:List ByteArray)(c:SV w v (x::L))(g:∀y∈L,0<y.size)(t:(x.toList == [33])=true)(q:L.length<=500)(p:L.length=0):
  Calls prog 152 #[v,.bool false] w fun e m=>jw none w e m:=by
 obtain⟨r,s,h,l,o⟩:=info_parts O4;obtain⟨k,j,rfl⟩:=c.qw;obtain⟨z,u,rfl,b,a⟩:=c.cells (by simp);have d:=a 0 (by simp);rw[uI,kK] at d;go_enter func152,ntmps152;go_wp2_with (first|(refine qN _ w rfl (.tmp 26) 30 9 (some (.const (.int .i64 1))) none rfl underlying30 r s OC _ (x::L) rfl c 1 (L.length+1) (ze rfl) (zf ⟨rfl,rfl⟩) (by omega) (by simp) L.length (by omega) ?_;intro n i f;simp only[lg,gI,uO] at f))
 exact zJ (v:=.tuple #[.agg #[.bool true,.string ByteArray.empty,.slice none 0 0],.bool false]) (by simp[results,results152,go_sem];try rfl) rfl ⟨(by go_grown),_,_,_,_,_,rfl⟩
theorem Gn(w:World)(v:Value)(x:ByteArray)(L:List ByteArray)(j:SV w v (x::L))(g:∀y∈L,0<y.size)(E:(x.toList == [33])=true)(A:L.length<=500)(z:¬L.length=0)(F:yQ (Pi (gB L 0) 0)=false):
  Calls prog 152 #[v,.bool false] w fun e l=>jw none w e l:=by
 obtain⟨B,D,m,s,u⟩:=info_parts O4;obtain⟨r,q,rfl⟩:=j.qw;obtain⟨H,G,rfl,i,c⟩:=j.cells (by simp);have k:=c 0 (by simp);rw[uI,kK] at k;have h:0<(gB L 0).size:=by rw[←xt (by omega:0<L.length)];exact g _ (zu _)
 go_enter func152,ntmps152;go_wp2_with (first|(refine qN _ w rfl (.tmp 26) 30 9 (some (.const (.int .i64 1))) none rfl underlying30 B D OC _ (x::L) rfl j 1 (L.length+1) (ze rfl) (zf ⟨rfl,rfl⟩) (by omega) (by simp) L.length (by omega) ?_;intro t n f;simp only[lg,gI,uO] at f;obtain⟨b,o,rfl,p,a⟩:=f.cells (by omega);have d:=a 0 (by omega);rw[xt (by omega)] at d;rw[uI] at d;have C:=OY a;clear a)|(go_at_call 184;refine(kE _ _ h).mono ?_;rintro e l ⟨rfl,rfl⟩))
 exact zJ (v:=.tuple #[.agg #[.bool true,.string ByteArray.empty,.slice none 0 0],.bool false]) (by simp[results,results152,go_sem];try rfl) rfl ⟨(by go_grown),_,_,_,_,_,rfl⟩
theorem Kb(w:World)(v:Value)(x:ByteArray)(L:List ByteArray)(j:SV w v (x::L))(g:∀y∈L,0<y.size)(F:(x.toList == [33])=true)(B:L.length<=500)(A:¬L.length=0)(G:yQ (Pi (gB L 0) 0)=true)(t:L.length=1):
  Calls prog 152 #[v,.bool false] w fun e l=>jw (some ⟨true,gB L 0,[]⟩) w e l:=by
 obtain⟨C,E,m,s,z⟩:=info_parts O4;obtain⟨r,q,rfl⟩:=j.qw;obtain⟨I,H,rfl,i,c⟩:=j.cells (by simp);have k:=c 0 (by simp);rw[uI,kK] at k;have h:0<(gB L 0).size:=by rw[←xt (by omega:0<L.length)];exact g _ (zu _)
 go_enter func152,ntmps152;go_wp2_with (first|(refine qN _ w rfl (.tmp 26) 30 9 (some (.const (.int .i64 1))) none rfl underlying30 C E OC _ (x::L) rfl j 1 (L.length+1) (ze rfl) (zf ⟨rfl,rfl⟩) (by omega) (by simp) L.length (by omega) ?_;intro u n f;simp only[lg,gI,uO] at f;obtain⟨b,o,rfl,p,a⟩:=f.cells (by omega);have d:=a 0 (by omega);rw[xt (by omega)] at d;rw[uI] at d;have D:=OY a;clear a)|(go_at_call 184;refine(kE _ _ h).mono ?_;rintro e l ⟨rfl,rfl⟩))
 exact zJ (v:=.tuple #[.agg #[.bool true,.string (gB L 0),.slice none 0 0],.bool true]) (by simp[results,results152,go_sem]) rfl ⟨(by go_grown),_,rfl,Pg.nil _⟩
theorem Mc(w:World)(v:Value)(x:ByteArray)(L:List ByteArray)(j:SV w v (x::L))(g:∀y∈L,0<y.size)(G:(x.toList == [33])=true)(B:L.length<=500)(A:¬L.length=0)(H:yQ (Pi (gB L 0) 0)=true)(t:¬L.length=1)(F:L.length<4):
  Calls prog 152 #[v,.bool false] w fun e l=>jw none w e l:=by
 obtain⟨C,E,m,s,z⟩:=info_parts O4;obtain⟨r,q,rfl⟩:=j.qw;obtain⟨J,I,rfl,i,c⟩:=j.cells (by simp);have k:=c 0 (by simp);rw[uI,kK] at k;have h:0<(gB L 0).size:=by rw[←xt (by omega:0<L.length)];exact g _ (zu _)
 go_enter func152,ntmps152;go_wp2_with (first|(refine qN _ w rfl (.tmp 26) 30 9 (some (.const (.int .i64 1))) none rfl underlying30 C E OC _ (x::L) rfl j 1 (L.length+1) (ze rfl) (zf ⟨rfl,rfl⟩) (by omega) (by simp) L.length (by omega) ?_;intro u n f;simp only[lg,gI,uO] at f;obtain⟨b,o,rfl,p,a⟩:=f.cells (by omega);have d:=a 0 (by omega);rw[xt (by omega)] at d;rw[uI] at d;have D:=OY a;clear a)|(go_at_call 184;refine(kE _ _ h).mono ?_;rintro e l ⟨rfl,rfl⟩))
 exact zJ (v:=.tuple #[.agg #[.bool true,.string (gB L 0),.slice none 0 0],.bool false]) (by simp[results,results152,go_sem];try rfl) rfl ⟨(by go_grown),_,_,_,_,_,rfl⟩
theorem Gc(w:World)(v:Value)(x:ByteArray)(L:List ByteArray)(j:SV w v (x::L))(g:∀y∈L,0<y.size)(H:(x.toList == [33])=true)(C:L.length<=500)(B:¬L.length=0)(I:yQ (Pi (gB L 0) 0)=true)(u:¬L.length=1)(G:¬L.length<4)(r:L.length%2=1):
  Calls prog 152 #[v,.bool false] w fun e l=>jw none w e l:=by
 obtain⟨D,F,m,t,A⟩:=info_parts O4;obtain⟨s,q,rfl⟩:=j.qw;obtain⟨K,J,rfl,i,c⟩:=j.cells (by simp);have k:=c 0 (by simp);rw[uI,kK] at k;have h:0<(gB L 0).size:=by rw[←xt (by omega:0<L.length)];exact g _ (zu _)
 go_enter func152,ntmps152;go_wp2_with (first|(refine qN _ w rfl (.tmp 26) 30 9 (some (.const (.int .i64 1))) none rfl underlying30 D F OC _ (x::L) rfl j 1 (L.length+1) (ze rfl) (zf ⟨rfl,rfl⟩) (by omega) (by simp) L.length (by omega) ?_;intro z n f;simp only[lg,gI,uO] at f;obtain⟨b,o,rfl,p,a⟩:=f.cells (by omega);have d:=a 0 (by omega);rw[xt (by omega)] at d;rw[uI] at d;have E:=OY a;clear a)|(go_at_call 184;refine(kE _ _ h).mono ?_;rintro e l ⟨rfl,rfl⟩))
 exact zJ (v:=.tuple #[.agg #[.bool true,.string (gB L 0),.slice none 0 0],.bool false]) (by simp[results,results152,go_sem];try rfl) rfl ⟨(by go_grown),_,_,_,_,_,rfl⟩
theorem Hp(w:World)(v:Value)(x:ByteArray)(L:List ByteArray)(k:SV w v (x::L))(h:∀y∈L,0<y.size)(J:(x.toList == [33])=true)(D:L.length<=500)(C:¬L.length=0)(K:yQ (Pi (gB L 0) 0)=true)(z:¬L.length=1)(I:¬L.length<4)(s:¬L.length%2=1)(H:((gB L 1).toList == [40])=false):
  Calls prog 152 #[v,.bool false] w fun e m=>jw none w e m:=by
 obtain⟨E,G,n,u,B⟩:=info_parts O4;obtain⟨t,r,rfl⟩:=k.qw;obtain⟨N,M,rfl,j,c⟩:=k.cells (by simp);have l:=c 0 (by simp);rw[uI,kK] at l;have i:0<(gB L 0).size:=by rw[←xt (by omega:0<L.length)];exact h _ (zu _)
 go_enter func152,ntmps152;go_wp2_with (first|(refine qN _ w rfl (.tmp 26) 30 9 (some (.const (.int .i64 1))) none rfl underlying30 E G OC _ (x::L) rfl k 1 (L.length+1) (ze rfl) (zf ⟨rfl,rfl⟩) (by omega) (by simp) L.length (by omega) ?_;intro A p f;simp only[lg,gI,uO] at f;obtain⟨b,o,rfl,q,a⟩:=f.cells (by omega);have d:=a 0 (by omega);have g:=a 1 (by omega);rw[xt (by omega)] at d g;rw[uI] at d;have F:=OY a;clear a)|(go_at_call 184;refine(kE _ _ i).mono ?_;rintro e m ⟨rfl,rfl⟩))
 exact zJ (v:=.tuple #[.agg #[.bool true,.string (gB L 0),.slice none 0 0],.bool false]) (by simp[results,results152,go_sem];try rfl) rfl ⟨(by go_grown),_,_,_,_,_,rfl⟩
theorem Ml(w:World)(v:Value)(x:ByteArray)(L:List ByteArray)(k:SV w v (x::L))(h:∀y∈L,0<y.size)(M:(x.toList == [33])=true)(E:L.length<=500)(D:¬L.length=0)(N:yQ (Pi (gB L 0) 0)=true)(A:¬L.length=1)(K:¬L.length<4)(t:¬L.length%2=1)(J:((gB L 1).toList == [40])=true)(F:((gB L (L.length-1)).toList == [41])=false):
  Calls prog 152 #[v,.bool false] w fun e n=>jw none w e n:=by
 obtain⟨G,I,p,z,C⟩:=info_parts O4;obtain⟨u,s,rfl⟩:=k.qw;obtain⟨P,O,rfl,j,c⟩:=k.cells (by simp);have l:=c 0 (by simp);rw[uI,kK] at l;have i:0<(gB L 0).size:=by rw[←xt (by omega:0<L.length)];exact h _ (zu _)
 go_enter func152,ntmps152;go_wp2_with (first|(refine qN _ w rfl (.tmp 26) 30 9 (some (.const (.int .i64 1))) none rfl underlying30 G I OC _ (x::L) rfl k 1 (L.length+1) (ze rfl) (zf ⟨rfl,rfl⟩) (by omega) (by simp) L.length (by omega) ?_;intro B q f;simp only[lg,gI,uO] at f;obtain⟨b,o,rfl,r,a⟩:=f.cells (by omega);have d:=a 0 (by omega);have g:=a 1 (by omega);have m:=a (L.length-1) (by omega);rw[xt (by omega)] at d g m;rw[uI] at d;have H:=OY a;clear a)|(go_at_call 184;refine(kE _ _ i).mono ?_;rintro e n ⟨rfl,rfl⟩))
 exact zJ (v:=.tuple #[.agg #[.bool true,.string (gB L 0),.slice none 0 0],.bool false]) (by simp[results,results152,go_sem];try rfl) rfl ⟨(by go_grown),_,_,_,_,_,rfl⟩
end
section
variable {l:List ByteArray}
def yD(l:List ByteArray):Nat->Nat->Int->Nat->Option (List zj)
 |0,_,_,_=>some []
 |n+1,b,d,i=>
  if i<l.length then
   if ((gB l i).toList == [40]) then yD l n b (d+1) (i+1)
   else if ((gB l i).toList == [41]) then yD l n b (d-1) (i+1)
   else if ((gB l i).toList == [44])=false∨0<d then yD l n b d (i+1)
   else match jp ((l.drop b).take (i-b)) false with
    |none=>none
    |some a=>(yD l n (i+1) d (i+1)).map (a::·)
  else match jp ((l.drop b).take (i-b)) false with
   |none=>none
   |some a=>some [a]
theorem s40{x:ByteArray}(h:(x.toList == [40])=true):(x.toList == [41])=false/\(x.toList == [44])=false:=by rw[beq_iff_eq] at h;rw[h];exact⟨rfl,rfl⟩
theorem s41{x:ByteArray}(h:(x.toList == [41])=true):(x.toList == [40])=false/\(x.toList == [44])=false:=by rw[beq_iff_eq] at h;rw[h];exact⟨rfl,rfl⟩
def xH:List ByteArray->Nat
 |[]=>0
 |x::r=>if (x.toList == [58,45]) then 0 else xH r+1
theorem CU:∀l,xH l<=l.length
 |[]=>zh _
 |x::r=>by have:=CU r;unfold xH;split<;>simp<;>omega
theorem Ke{j:Nat}(a:j<l.length)(h:((gB l j).toList == [58,45])=false):xH (l.drop j)=xH (l.drop (j+1))+1:=by
 rw[xg a,xH,xt a,h];rfl
theorem IM{j:Nat}(a:j<l.length)(h:((gB l j).toList == [58,45])=true):xH (l.drop j)=0:=by
 rw[xg a,xH,xt a,h];rfl
def jD(l:List ByteArray):Option zc:=
 match jp (l.take (xH l)) true with
 |none=>none
 |some h=>if xH l=l.length then some ⟨h,[]⟩ else
  match yD (l.drop (xH l+1)) ((l.drop (xH l+1)).length+1) 0 0 0 with
  |none=>none
  |some b=>some ⟨h,b⟩
def qb(l:List ByteArray):Nat->Nat->Nat->Option (List zc)
 |0,a,_=>if a=l.length then some [] else none
 |n+1,a,i=>
  if ((gB l i).toList == [46]) then
   match jD ((l.drop a).take (i-a)) with
   |none=>none
   |some c=>(qb l n (i+1) (i+1)).map (c::·)
  else qb l n a (i+1)
def uQ(l:List ByteArray):Option (List zc):=qb l l.length 0 0
end
theorem hO(s:ByteArray)(i:Nat):(s.extract i s.size).size=s.size-i:=by simp[ByteArray.size_extract]
theorem iA(s:ByteArray)(i j k:Nat)(b:j<=s.size)(c:i+k<j):Pi (s.extract i j) k=Pi s (i+k):=by
 have a:k<(s.extract i j).size:=by rw[ByteArray.size_extract];omega
 rw[vY a,vY (by omega:i+k<s.size)];simp[ByteArray.getElem_extract]
theorem px(s:ByteArray)(i k:Nat):Pi (s.extract i s.size) k=Pi s (i+k):=by
 by_cases h:i+k<s.size
 ·exact iA s i s.size k (zh _) h
 ·rw[np h,np (by rw[hO];omega)]
theorem CW(p:Int->Bool)(s:ByteArray)(i:Nat):∀(n j:Nat),s.size-i-j<=n->yA p (s.extract i s.size) j+i=yA p s (i+j):=by
 intro n;induction n with
 |zero=>intro j b;rw[gx (by rw[hO];omega),gx (by omega)];omega
 |succ n c=>
  intro j b;by_cases h:i+j<s.size
  ·cases a:p (Pi s (i+j)) with
   |true=>rw[l3 (by rw[hO];omega) (by rw[px];exact a),l3 h a,c (j+1) (by omega)];rfl
   |false=>rw[lG (by rw[px];exact a),lG a];omega
  ·rw[gx (by rw[hO];omega),gx h];omega
theorem Nr(s:ByteArray)(i:Nat)(k:Int):yi (s.extract i s.size) 0 k+i=yi s i k:=by
 unfold yi;have b:=CW P9 s i _ 0 (zh _);have a:=CW yJ s i _ 0 (zh _);simp only[uI] at b a;repeat' split
 all_goals omega
theorem FI(s:ByteArray)(i:Nat):xd (s.extract i s.size)+i=yi s i (xa (Pi s i) (Pi s (i+1))):=by
 unfold xd;rw[px,px,Nr];rfl
theorem wL(s:ByteArray)(i a b x y:Nat)(d:i+a=x)(c:min (i+b) s.size=y):(s.extract i s.size).extract a b=s.extract x y:=by
 rw[ByteArray.extract_extract,d,c]
theorem Jv(s:ByteArray)(i:Nat):yi s i 0=i:=by simp[yi]
theorem Mg(s:ByteArray):∀(n i:Nat),i<=s.size->s.size-i<=n->xh n (s.extract i s.size)=(Pn n s i).map (·.map Prod.snd):=by
 intro n;induction n with
 |zero=>intro i m o;rw[eS (by rw[hO];omega),nN (by omega)];rfl
 |succ n f=>
  intro i m o;by_cases h:i<s.size
  ·have d:0<(s.extract i s.size).size:=by rw[hO];omega
   have a:=px s i 0;cases b:vT (Pi s i) with
   |true=>
    rw[Db d (by rw[a];exact b),sX h b,←f (i+1) (by omega) (by omega),wL s i 1 _ (i+1) s.size rfl (by rw[hO];omega)]
   |false=>
    have j:=FI s i;generalize e:xa (Pi s i) (Pi s (i+1))=k at j;by_cases c:k=0
    ·subst c;rw[Jv] at j;rw[ec d (by rw[a];exact b) (zf (by omega)),tD h b e];rfl
    ·have q:=pP s i k h e c;by_cases g:6<yi s i k-i
     ·rw[ec d (by rw[a];exact b) (ze (by omega)),td h b e g];rfl
     ·rw[oX d (by rw[a];exact b) (by omega) (by omega),tF h b e c g];have l:(s.extract i s.size).extract 0 (xd (s.extract i s.size))=s.extract i (yi s i k):=wL s i _ _ _ _ rfl (by omega);have p:(s.extract i s.size).extract (xd (s.extract i s.size)) (s.extract i s.size).size=s.extract (yi s i k) s.size:=wL s i _ _ _ _ (by omega) (by rw[hO];omega);rw[l,p,f _ (by omega) (by omega),Option.map_map,Option.map_map];rfl
  ·rw[eS (by rw[hO];omega),nN h];rfl
theorem pQ(s:ByteArray):xh s.size s=(Pl s).map (·.map Prod.snd):=by
 have h:=Mg s s.size 0 (by omega) (by omega);rwa [show s.extract 0 s.size=s by simp] at h
end Go.Proofs.YteampbddflhngaaGreat
