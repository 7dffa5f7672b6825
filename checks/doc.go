// Package checks holds no code of the program: its tests look whether the program keeps to its language, its map and its ways.
package checks
