import Derived.Test.YteampbddflhngaaGreatA01
namespace Go.Proofs.YteampbddflhngaaGreat
open List renaming length→List.j
open _root_.Array renaming size→Array.q
open _root_.ByteArray renaming size→ByteArray.q,empty→g_
open Go.Calls renaming mono→Go.Calls.y
open Go.Value renaming bool→Go.Value.i,cells→Go.Value.E
open Go.TypeDesc renaming bool→Go.TypeDesc.i
open Go.Obj renaming cells→Go.Obj.E
open Option renaming none→Y
open Go renaming World→U,Value→O,Calls→c_
open Go.Proofs.Tryz renaming prog→e_
set_option linter.all false
set_option maxRecDepth 100000
set_option maxHeartbeats 2000000
open Go.Proofs.Tryz Go.RowKit
def JZ(w:U)(v:O)(L:List Λ)(b:Bool)(c:SV w v L)(f:∀y∈L,0<y.q)(h:L.j<=500)(g:Vo L b=false)(j:L.j=0):
  c_ e_ 152 #[v,.i b] w λe i=>jV Y w e i:=by
 have a:=nX g;obtain⟨k,d,rfl⟩:=c.qm;rcases a with a|⟨a,_⟩|⟨⟨a,_⟩,rfl⟩
 .go_enter func152,ntmps152;go_wp2;exact zP (v:=.tuple #[.agg #[.i false,.string g_,ν],.i false]) (by simp[results,results152,go_sem];try rfl) rfl ⟨γ,_,_,_,_,_,rfl⟩
 omega;omega
def MZ(w:U)(v:O)(L:List Λ)(c:Bool)(f:SV w v L)(g:∀y∈L,0<y.q)(n:L.j<=500)(m:Vo L c=false)(p:¬L.j=0)(hs:xg (UC (gB L 0) 0)=false):
  c_ e_ 152 #[v,.i c] w λe l=>jV Y w e l:=by
 have a:=nX m;obtain⟨q,j,rfl⟩:=f.qm;have i:0<(gB L 0).q:=by rw[←xK (by omega:0<L.j)];exact g _ (zr _)
 obtain⟨b,o,rfl,k,h⟩:=f.E η;have d:=h 0 η;rw[xK η] at d;rw[vB] at d;rcases a with a|⟨_,a⟩|⟨⟨_,a⟩,rfl⟩;omega
 all_goals
  go_enter func152,ntmps152;go_wp2_with (go_at_call 184;refine(gT _ _ i).y ?_;rintro e l ⟨rfl,rfl⟩)
  exact zP (v:=.tuple #[.agg #[.i false,.string g_,ν],.i false]) (by simp[results,results152,go_sem];try rfl) rfl ⟨γ,_,_,_,_,_,rfl⟩
def PU(w:U)(v:O)(L:List Λ)(c:Bool)(f:SV w v L)(g:∀y∈L,0<y.q)(n:L.j<=500)(m:Vo L c=false)(p:¬L.j=0)(hs:xg (UC (gB L 0) 0)=true)(r:L.j=1):
  c_ e_ 152 #[v,.i c] w λe l=>jV (some ⟨false,gB L 0,[]⟩) w e l:=by
 have a:=nX m;obtain⟨q,j,rfl⟩:=f.qm;have i:0<(gB L 0).q:=by rw[←xK (by omega:0<L.j)];exact g _ (zr _)
 obtain⟨b,o,rfl,k,h⟩:=f.E η;have d:=h 0 η;rw[xK η] at d;rw[vB] at d;rcases a with a|⟨_,a⟩|⟨⟨_,a⟩,rfl⟩;omega
 all_goals
  go_enter func152,ntmps152;go_wp2_with (go_at_call 184;refine(gT _ _ i).y ?_;rintro e l ⟨rfl,rfl⟩)
  exact zP (v:=.tuple #[.agg #[.i false,.string (gB L 0),ν],.i true]) (by simp[results,results152,go_sem]) rfl ⟨γ,_,rfl,U7.nil _⟩
def T8(w:U)(v:O)(L:List Λ)(c:Bool)(f:SV w v L)(g:∀y∈L,0<y.q)(n:L.j<=500)(m:Vo L c=false)(p:¬L.j=0)(hs:xg (UC (gB L 0) 0)=true)(s:¬L.j=1)(q:L.j<4):
  c_ e_ 152 #[v,.i c] w λe l=>jV Y w e l:=by
 have a:=nX m;obtain⟨r,j,rfl⟩:=f.qm;have i:0<(gB L 0).q:=by rw[←xK (by omega:0<L.j)];exact g _ (zr _)
 obtain⟨b,o,rfl,k,h⟩:=f.E η;have d:=h 0 η;rw[xK η] at d;rw[vB] at d;rcases a with a|⟨_,a⟩|⟨⟨_,a⟩,rfl⟩;omega
 all_goals
  go_enter func152,ntmps152;go_wp2_with (go_at_call 184;refine(gT _ _ i).y ?_;rintro e l ⟨rfl,rfl⟩)
  exact zP (v:=.tuple #[.agg #[.i false,.string (gB L 0),ν],.i false]) (by simp[results,results152,go_sem];try rfl) rfl ⟨γ,_,_,_,_,_,rfl⟩
def QM(w:U)(v:O)(L:List Λ)(c:Bool)(f:SV w v L)(g:∀y∈L,0<y.q)(n:L.j<=500)(m:Vo L c=false)(q:¬L.j=0)(hs:xg (UC (gB L 0) 0)=true)(t:¬L.j=1)(r:¬L.j<4)(p:L.j%2=1):
  c_ e_ 152 #[v,.i c] w λe l=>jV Y w e l:=by
 have a:=nX m;obtain⟨s,j,rfl⟩:=f.qm;have i:0<(gB L 0).q:=by rw[←xK (by omega:0<L.j)];exact g _ (zr _)
 obtain⟨b,o,rfl,k,h⟩:=f.E η;have d:=h 0 η;rw[xK η] at d;rw[vB] at d;rcases a with a|⟨_,a⟩|⟨⟨_,a⟩,rfl⟩;omega
 all_goals
  go_enter func152,ntmps152;go_wp2_with (go_at_call 184;refine(gT _ _ i).y ?_;rintro e l ⟨rfl,rfl⟩)
  exact zP (v:=.tuple #[.agg #[.i false,.string (gB L 0),ν],.i false]) (by simp[results,results152,go_sem];try rfl) rfl ⟨γ,_,_,_,_,_,rfl⟩
def S6(w:U)(v:O)(L:List Λ)(c:Bool)(g:SV w v L)(j:∀y∈L,0<y.q)(s:L.j<=500)(n:Vo L c=false)(u:¬L.j=0)(hs:xg (UC (gB L 0) 0)=true)(r:¬L.j=1)(q:¬L.j<4)(t:¬L.j%2=1)(p:((gB L 1).toList == [40])=false):
  c_ e_ 152 #[v,.i c] w λe l=>jV Y w e l:=by
 have a:=nX n;obtain⟨x,k,rfl⟩:=g.qm;have h:0<(gB L 0).q:=by rw[←xK (by omega:0<L.j)];exact j _ (zr _)
 obtain⟨b,o,rfl,m,d⟩:=g.E η;have f:=d 0 η;have i:=d 1 η;rw[xK η] at f i;rw[vB] at f;rcases a with a|⟨_,a⟩|⟨⟨_,a⟩,rfl⟩;omega
 all_goals
  go_enter func152,ntmps152;go_wp2_with (go_at_call 184;refine(gT _ _ h).y ?_;rintro e l ⟨rfl,rfl⟩)
  exact zP (v:=.tuple #[.agg #[.i false,.string (gB L 0),ν],.i false]) (by simp[results,results152,go_sem];try rfl) rfl ⟨γ,_,_,_,_,_,rfl⟩
def IX(w:U)(v:O)(L:List Λ)(c:Bool)(g:SV w v L)(k:∀y∈L,0<y.q)(u:L.j<=500)(p:Vo L c=false)(z:¬L.j=0)(hs:xg (UC (gB L 0) 0)=true)(s:¬L.j=1)(r:¬L.j<4)(x:¬L.j%2=1)(q:((gB L 1).toList == [40])=true)(t:((gB L (L.j-1)).toList == [41])=false):
  c_ e_ 152 #[v,.i c] w λe m=>jV Y w e m:=by
 have a:=nX p;obtain⟨A,l,rfl⟩:=g.qm;have h:0<(gB L 0).q:=by rw[←xK (by omega:0<L.j)];exact k _ (zr _)
 obtain⟨b,o,rfl,n,d⟩:=g.E η;have f:=d 0 η;have i:=d 1 η;have j:=d (L.j-1) η;rw[xK η] at f i j;rw[vB] at f;rcases a with a|⟨_,a⟩|⟨⟨_,a⟩,rfl⟩;omega
 all_goals
  go_enter func152,ntmps152;go_wp2_with (go_at_call 184;refine(gT _ _ h).y ?_;rintro e m ⟨rfl,rfl⟩)
  exact zP (v:=.tuple #[.agg #[.i false,.string (gB L 0),ν],.i false]) (by simp[results,results152,go_sem];try rfl) rfl ⟨γ,_,_,_,_,_,rfl⟩
end Go.Proofs.YteampbddflhngaaGreat
