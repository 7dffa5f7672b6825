package print

import (
	"slices"

	"lodger/api"
)

// Same tells whether declarations are alike in all but the places.
func Same(a, b []*api.Decl) bool {
	return slices.EqualFunc(a, b, sameDeclaration)
}

func sameDeclaration(a, b *api.Decl) bool {
	if a == b || a == nil || b == nil {
		return a == b
	}
	return a.Kind == b.Kind && a.Name == b.Name && a.Text == b.Text &&
		sameType(a.T, b.T) && sameExpression(a.E, b.E) &&
		slices.Equal(a.Names, b.Names) && slices.EqualFunc(a.Types, b.Types, sameType)
}

func sameType(a, b *api.TypeEx) bool {
	if a == b || a == nil || b == nil {
		return a == b
	}
	return a.Kind == b.Kind && a.Alias == b.Alias && a.Name == b.Name &&
		slices.Equal(a.Names, b.Names) && slices.EqualFunc(a.Args, b.Args, sameType) && sameType(a.Ret, b.Ret)
}

func sameExpression(a, b *api.Expr) bool {
	if a == b || a == nil || b == nil {
		return a == b
	}
	return a.Kind == b.Kind && a.N == b.N && a.Text == b.Text &&
		sameExpression(a.L, b.L) && sameExpression(a.R, b.R) && sameExpression(a.C, b.C) && sameType(a.T, b.T) &&
		slices.Equal(a.Names, b.Names) && slices.EqualFunc(a.Types, b.Types, sameType) && slices.EqualFunc(a.Args, b.Args, sameExpression)
}
