import Derived.Test.YteampbddflhngaaGreatR01
namespace Go.Proofs.YteampbddflhngaaGreat
open List renaming length→List.j
open _root_.Array renaming size→Array.q,toList→Array.v
open _root_.ByteArray renaming size→ByteArray.q,toList→ByteArray.v
open Go.TypeInfo renaming size→Go.TypeInfo.q
open Go.Calls renaming mono→Go.Calls.y
open Go.Value renaming bool→Go.Value.i,cells→Go.Value.E
open Go.TypeDesc renaming bool→Go.TypeDesc.i
open Go.Obj renaming cells→Go.Obj.E
open Option renaming some→Z,none→Y
open Go renaming World→U,Value→O
set_option linter.all false
set_option maxRecDepth 100000
set_option maxHeartbeats 2000000
open Go.Proofs.Tryz Go.RowKit
def ND(w:U)(v:O)(x:ByteArray)(L:κ)(c:SV w v (x::L))(h:∀y∈L,0<y.q)(z:(x.v == [33])=true)(q:L.j<=500)(n:L.j=0):
  Calls prog 152 #[v,.i false] w λe s=>jW Y w e s:=by
 obtain⟨m,o,i,k,p⟩:=info_parts SG;obtain⟨r,j,rfl⟩:=c.qy;obtain⟨t,u,rfl,f,a⟩:=c.E ζ;have d:=a 0 ζ;rw[vu,gQ] at d;go_enter func152,ntmps152;go_wp2_with (refine jz _ w rfl (.tmp 26) 30 9 (Z (.const (ι 1))) Y rfl underlying30 m o S6 _ (x::L) rfl c 1 (L.j+1) (ze rfl) (zh ⟨rfl,rfl⟩) η ζ L.j η ?_;intro l g b;simp only[mF,fM,uY] at b)
 exact zP (v:=.tuple #[.agg #[.i true,.string ByteArray.empty,ν],.i false]) (by simp[results,results152,go_sem];try rfl) rfl ⟨γ,_,_,_,_,_,rfl⟩
def JX(w:U)(v:O)(x:ByteArray)(L:κ)(h:SV w v (x::L))(k:∀y∈L,0<y.q)(G:(x.v == [33])=true)(C:L.j<=500)(z:¬L.j=0)(hs:xi (Tt (gB L 0) 0)=false):
  Calls prog 152 #[v,.i false] w λe p=>jW Y w e p:=by
 obtain⟨u,A,m,s,B⟩:=info_parts SG;obtain⟨D,n,rfl⟩:=h.qy;obtain⟨E,F,rfl,j,d⟩:=h.E ζ;have i:=d 0 ζ;rw[vu,gQ] at i;have g:0<(gB L 0).q:=by rw[←xJ (by omega:0<L.j)];exact k _ (zq _)
 go_enter func152,ntmps152;go_wp2_with (first|(refine jz _ w rfl (.tmp 26) 30 9 (Z (.const (ι 1))) Y rfl underlying30 u A S6 _ (x::L) rfl h 1 (L.j+1) (ze rfl) (zh ⟨rfl,rfl⟩) η ζ L.j η ?_;intro t l c;simp only[mF,fM,uY] at c;obtain⟨b,o,rfl,q,a⟩:=c.E η;have f:=a 0 η;rw[xJ η] at f;rw[vu] at f;have r:=Th a;clear a)|(go_at_call 184;refine(gu _ _ g).y ?_;rintro e p ⟨rfl,rfl⟩))
 exact zP (v:=.tuple #[.agg #[.i true,.string ByteArray.empty,ν],.i false]) (by simp[results,results152,go_sem];try rfl) rfl ⟨γ,_,_,_,_,_,rfl⟩
def QR(w:U)(v:O)(x:ByteArray)(L:κ)(h:SV w v (x::L))(k:∀y∈L,0<y.q)(H:(x.v == [33])=true)(D:L.j<=500)(z:¬L.j=0)(hs:xi (Tt (gB L 0) 0)=true)(B:L.j=1):
  Calls prog 152 #[v,.i false] w λe p=>jW (Z ⟨true,gB L 0,[]⟩) w e p:=by
 obtain⟨u,A,m,s,C⟩:=info_parts SG;obtain⟨E,n,rfl⟩:=h.qy;obtain⟨F,G,rfl,j,d⟩:=h.E ζ;have i:=d 0 ζ;rw[vu,gQ] at i;have g:0<(gB L 0).q:=by rw[←xJ (by omega:0<L.j)];exact k _ (zq _)
 go_enter func152,ntmps152;go_wp2_with (first|(refine jz _ w rfl (.tmp 26) 30 9 (Z (.const (ι 1))) Y rfl underlying30 u A S6 _ (x::L) rfl h 1 (L.j+1) (ze rfl) (zh ⟨rfl,rfl⟩) η ζ L.j η ?_;intro t l c;simp only[mF,fM,uY] at c;obtain⟨b,o,rfl,q,a⟩:=c.E η;have f:=a 0 η;rw[xJ η] at f;rw[vu] at f;have r:=Th a;clear a)|(go_at_call 184;refine(gu _ _ g).y ?_;rintro e p ⟨rfl,rfl⟩))
 exact zP (v:=.tuple #[.agg #[.i true,.string (gB L 0),ν],.i true]) (by simp[results,results152,go_sem]) rfl ⟨γ,_,rfl,To.nil _⟩
def MN(w:U)(v:O)(x:ByteArray)(L:κ)(h:SV w v (x::L))(k:∀y∈L,0<y.q)(I:(x.v == [33])=true)(E:L.j<=500)(A:¬L.j=0)(hs:xi (Tt (gB L 0) 0)=true)(C:¬L.j=1)(u:L.j<4):
  Calls prog 152 #[v,.i false] w λe p=>jW Y w e p:=by
 obtain⟨z,B,m,s,D⟩:=info_parts SG;obtain⟨F,n,rfl⟩:=h.qy;obtain⟨G,H,rfl,j,d⟩:=h.E ζ;have i:=d 0 ζ;rw[vu,gQ] at i;have g:0<(gB L 0).q:=by rw[←xJ (by omega:0<L.j)];exact k _ (zq _)
 go_enter func152,ntmps152;go_wp2_with (first|(refine jz _ w rfl (.tmp 26) 30 9 (Z (.const (ι 1))) Y rfl underlying30 z B S6 _ (x::L) rfl h 1 (L.j+1) (ze rfl) (zh ⟨rfl,rfl⟩) η ζ L.j η ?_;intro t l c;simp only[mF,fM,uY] at c;obtain⟨b,o,rfl,q,a⟩:=c.E η;have f:=a 0 η;rw[xJ η] at f;rw[vu] at f;have r:=Th a;clear a)|(go_at_call 184;refine(gu _ _ g).y ?_;rintro e p ⟨rfl,rfl⟩))
 exact zP (v:=.tuple #[.agg #[.i true,.string (gB L 0),ν],.i false]) (by simp[results,results152,go_sem];try rfl) rfl ⟨γ,_,_,_,_,_,rfl⟩
def LX(w:U)(v:O)(x:ByteArray)(L:κ)(h:SV w v (x::L))(k:∀y∈L,0<y.q)(J:(x.v == [33])=true)(F:L.j<=500)(A:¬L.j=0)(hs:xi (Tt (gB L 0) 0)=true)(C:¬L.j=1)(u:¬L.j<4)(D:L.j%2=1):
  Calls prog 152 #[v,.i false] w λe p=>jW Y w e p:=by
 obtain⟨z,B,m,s,E⟩:=info_parts SG;obtain⟨G,n,rfl⟩:=h.qy;obtain⟨H,I,rfl,j,d⟩:=h.E ζ;have i:=d 0 ζ;rw[vu,gQ] at i;have g:0<(gB L 0).q:=by rw[←xJ (by omega:0<L.j)];exact k _ (zq _)
 go_enter func152,ntmps152;go_wp2_with (first|(refine jz _ w rfl (.tmp 26) 30 9 (Z (.const (ι 1))) Y rfl underlying30 z B S6 _ (x::L) rfl h 1 (L.j+1) (ze rfl) (zh ⟨rfl,rfl⟩) η ζ L.j η ?_;intro t l c;simp only[mF,fM,uY] at c;obtain⟨b,o,rfl,q,a⟩:=c.E η;have f:=a 0 η;rw[xJ η] at f;rw[vu] at f;have r:=Th a;clear a)|(go_at_call 184;refine(gu _ _ g).y ?_;rintro e p ⟨rfl,rfl⟩))
 exact zP (v:=.tuple #[.agg #[.i true,.string (gB L 0),ν],.i false]) (by simp[results,results152,go_sem];try rfl) rfl ⟨γ,_,_,_,_,_,rfl⟩
def LE(w:U)(v:O)(x:ByteArray)(L:κ)(i:SV w v (x::L))(l:∀y∈L,0<y.q)(M:(x.v == [33])=true)(G:L.j<=500)(B:¬L.j=0)(hs:xi (Tt (gB L 0) 0)=true)(D:¬L.j=1)(z:¬L.j<4)(E:¬L.j%2=1)(I:((gB L 1).v == [40])=false):
  Calls prog 152 #[v,.i false] w λe q=>jW Y w e q:=by
 obtain⟨A,C,n,t,F⟩:=info_parts SG;obtain⟨H,p,rfl⟩:=i.qy;obtain⟨J,K,rfl,k,d⟩:=i.E ζ;have j:=d 0 ζ;rw[vu,gQ] at j;have g:0<(gB L 0).q:=by rw[←xJ (by omega:0<L.j)];exact l _ (zq _)
 go_enter func152,ntmps152;go_wp2_with (first|(refine jz _ w rfl (.tmp 26) 30 9 (Z (.const (ι 1))) Y rfl underlying30 A C S6 _ (x::L) rfl i 1 (L.j+1) (ze rfl) (zh ⟨rfl,rfl⟩) η ζ L.j η ?_;intro u m c;simp only[mF,fM,uY] at c;obtain⟨b,o,rfl,r,a⟩:=c.E η;have f:=a 0 η;have h:=a 1 η;rw[xJ η] at f h;rw[vu] at f;have s:=Th a;clear a)|(go_at_call 184;refine(gu _ _ g).y ?_;rintro e q ⟨rfl,rfl⟩))
 exact zP (v:=.tuple #[.agg #[.i true,.string (gB L 0),ν],.i false]) (by simp[results,results152,go_sem];try rfl) rfl ⟨γ,_,_,_,_,_,rfl⟩
def PG(w:U)(v:O)(x:ByteArray)(L:κ)(i:SV w v (x::L))(l:∀y∈L,0<y.q)(P:(x.v == [33])=true)(I:L.j<=500)(D:¬L.j=0)(hs:xi (Tt (gB L 0) 0)=true)(F:¬L.j=1)(A:¬L.j<4)(G:¬L.j%2=1)(K:((gB L 1).v == [40])=true)(B:((gB L (L.j-1)).v == [41])=false):
  Calls prog 152 #[v,.i false] w λe r=>jW Y w e r:=by
 obtain⟨C,E,p,u,H⟩:=info_parts SG;obtain⟨J,q,rfl⟩:=i.qy;obtain⟨M,N,rfl,k,d⟩:=i.E ζ;have j:=d 0 ζ;rw[vu,gQ] at j;have g:0<(gB L 0).q:=by rw[←xJ (by omega:0<L.j)];exact l _ (zq _)
 go_enter func152,ntmps152;go_wp2_with (first|(refine jz _ w rfl (.tmp 26) 30 9 (Z (.const (ι 1))) Y rfl underlying30 C E S6 _ (x::L) rfl i 1 (L.j+1) (ze rfl) (zh ⟨rfl,rfl⟩) η ζ L.j η ?_;intro z n c;simp only[mF,fM,uY] at c;obtain⟨b,o,rfl,s,a⟩:=c.E η;have f:=a 0 η;have h:=a 1 η;have m:=a (L.j-1) η;rw[xJ η] at f h m;rw[vu] at f;have t:=Th a;clear a)|(go_at_call 184;refine(gu _ _ g).y ?_;rintro e r ⟨rfl,rfl⟩))
 exact zP (v:=.tuple #[.agg #[.i true,.string (gB L 0),ν],.i false]) (by simp[results,results152,go_sem];try rfl) rfl ⟨γ,_,_,_,_,_,rfl⟩
end Go.Proofs.YteampbddflhngaaGreat
